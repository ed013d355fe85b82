/-
  Instructions as text: what Text and Parse answer, as plain functions, and that they go together.
-/
import Derived.Test.YtoekcfbjdcibpaaGreatDoorAsNum
import Derived.Test.YtoekcfbjdcibpaaGreatDoorInNm
import Derived.Lib.IndexMore
import Derived.Lib.Strings
namespace Go.Proofs.YtoekcfbjdcibpaaGreatDoor
open Go.Lib Go.RowKit
set_option linter.unusedVariables false

def regL (n : Int) : Str := 120 :: itoa n
/-- How an operation's operands stand. -/
def operK (k : Nat) (op : Nat) : Str :=
  if k = 85 then [100, 44, 32, 117]
  else if k = 74 then [100, 44, 32, 110]
  else if k = 73 ∨ k = 70 ∨ k = 72 then [100, 44, 32, 115, 44, 32, 110]
  else if k = 76 then [100, 44, 32, 110, 40, 115, 41]
  else if k = 66 then [115, 44, 32, 116, 44, 32, 110]
  else if k = 83 then [116, 44, 32, 110, 40, 115, 41]
  else if k = 82 then [100, 44, 32, 115, 44, 32, 116]
  else if k = 67 then (if 54 ≤ op then [100, 44, 32, 99, 44, 32, 122] else [100, 44, 32, 99, 44, 32, 115])
  else []
def toldL (i : I6) (c : UInt8) : Str :=
  if c = 100 then regL i.rd else if c = 115 then regL i.rs1 else if c = 116 then regL i.rs2 else if c = 122 then itoa i.rs1
  else if c = 110 then itoa i.imm else if c = 117 then itoa (i.imm.tdiv 4096) else if c = 99 then itoa i.csr else [c]
def nameS (op : Nat) : Str := nameL.getD op []
def restL (k op : Nat) (i : I6) : Str := (operK k op).flatMap (toldL i)
def textK (k op : Nat) (i : I6) : Str := nameS op ++ ((if operK k op = [] then [] else [32]) ++ restL k op i)
def textL (i : I6) : Str := textK (kindN i.op.toNat) i.op.toNat i

def isMark (c : UInt8) : Bool := c == 32 || c == 44 || c == 40 || c == 41
/-- The pieces between marks. -/
def fieldsFrom : Str → Str → List Str
  | cur, [] => if cur = [] then [] else [cur]
  | cur, c :: r => if isMark c = true then (if cur = [] then fieldsFrom [] r else cur :: fieldsFrom [] r) else fieldsFrom (cur ++ [c]) r

def lettersK (k : Nat) (op : Nat) : Str :=
  if k = 85 then [100, 117]
  else if k = 74 then [100, 110]
  else if k = 73 ∨ k = 70 ∨ k = 72 then [100, 115, 110]
  else if k = 76 then [100, 110, 115]
  else if k = 66 then [115, 116, 110]
  else if k = 83 then [116, 110, 115]
  else if k = 82 then [100, 115, 116]
  else if k = 67 then (if 54 ≤ op then [100, 99, 122] else [100, 99, 115])
  else []
def withL (i : I6) (p : UInt8) (n : Int) : I6 :=
  if p = 100 then { i with rd := n } else if p = 115 ∨ p = 122 then { i with rs1 := n } else if p = 116 then { i with rs2 := n }
  else if p = 110 then { i with imm := n } else if p = 117 then { i with imm := wrap64 (n * 4096) } else if p = 99 then { i with csr := n } else i
def atoiV (l : Str) : Int := match atoiAll l with | .ok v => v | .range => atoiSat l | _ => 0
def numX (x : Str) : Int := atoiV (trimPrefix x [120])
def guessFrom : I6 → Str → List Str → I6
  | i, [], _ => i
  | i, _ :: _, [] => i
  | i, p :: ps, x :: xs => guessFrom (withL i p (numX x)) ps xs
def guessL (op : Nat) (text : Str) : I6 := guessFrom ⟨op, 0, 0, 0, 0, 0⟩ (lettersK (kindN op) op) (fieldsFrom [] text)

def findS (name : Str) : Option Nat := fndOp ⟨name.toArray⟩
def parseL (s : Str) : Option I6 :=
  match findS (cut s [32]).1 with
  | none => none
  | some op => if encOk (guessL op (cut s [32]).2.1) = true ∧ textL (guessL op (cut s [32]).2.1) = s then some (guessL op (cut s [32]).2.1) else none

/-! Pieces. -/
theorem fields_plain : ∀ (w cur : Str), (∀ c ∈ w, isMark c = false) → ∀ r, fieldsFrom cur (w ++ r) = fieldsFrom (cur ++ w) r
  | [], cur, _, r => by simp
  | c :: w, cur, h, r => by
    have hc := h c (by simp)
    rw [List.cons_append, fieldsFrom, hc, if_neg (by simp), fields_plain w (cur ++ [c]) (fun x hx => h x (by simp [hx])) r]
    simp
theorem fields_mark {c : UInt8} (hc : isMark c = true) {w : Str} (hw : w ≠ []) (h : ∀ c ∈ w, isMark c = false) (r : Str) : fieldsFrom [] (w ++ c :: r) = w :: fieldsFrom [] r := by
  rw [fields_plain w [] h, List.nil_append, fieldsFrom, if_pos hc, if_neg hw]
theorem fields_skip {c : UInt8} (hc : isMark c = true) (r : Str) : fieldsFrom [] (c :: r) = fieldsFrom [] r := by
  rw [fieldsFrom, if_pos hc, if_pos rfl]
theorem fields_end {w : Str} (hw : w ≠ []) (h : ∀ c ∈ w, isMark c = false) : fieldsFrom [] w = [w] := by
  have := fields_plain w [] h []
  rw [List.append_nil] at this
  rw [this, List.nil_append, fieldsFrom, if_neg hw]

theorem dig_mark {c : UInt8} (h : isDig c = true) : isMark c = false := by
  have hc : 48 ≤ c.toNat ∧ c.toNat ≤ 57 := by simpa [isDig] using h
  simp only [isMark, Bool.or_eq_false_iff, beq_eq_false_iff_ne]
  refine ⟨⟨⟨?_, ?_⟩, ?_⟩, ?_⟩ <;> (rintro rfl; revert hc; decide)
theorem itoa_mark (n : Int) : ∀ c ∈ itoa n, isMark c = false := by
  intro c hc
  unfold itoa at hc
  split at hc
  · rcases List.mem_cons.1 hc with rfl | hc
    · decide
    · exact dig_mark (decDigits_dig _ c hc)
  · exact dig_mark (decDigits_dig _ c hc)
theorem itoa_ne (n : Int) : itoa n ≠ [] := by
  unfold itoa
  split
  · simp
  · exact decDigits_ne _
theorem reg_mark (n : Int) : ∀ c ∈ regL n, isMark c = false := by
  intro c hc
  rcases List.mem_cons.1 hc with rfl | hc
  · decide
  · exact itoa_mark n c hc
theorem reg_ne (n : Int) : regL n ≠ [] := by simp [regL]

/-! Numbers read again. -/
theorem itoa_noX (n : Int) (r : Str) : itoa n ≠ 120 :: r := by
  intro e
  have : (120 : UInt8) ∈ itoa n := by rw [e]; simp
  unfold itoa at this
  have hd : ∀ u, (120 : UInt8) ∉ decDigits u := fun u h => by
    have := decDigits_dig u 120 h
    revert this; decide
  split at this
  · rcases List.mem_cons.1 this with h | h
    · revert h; decide
    · exact hd _ h
  · exact hd _ this
theorem trim_itoa (n : Int) : trimPrefix (itoa n) [120] = itoa n := by
  unfold trimPrefix
  rw [if_neg]
  unfold hasPrefix
  cases h : itoa n with
  | nil => simp
  | cons a t =>
    have := itoa_noX n t
    rw [h] at this
    simp only [List.isPrefixOf, Bool.and_true, beq_iff_eq]
    intro e; subst e; exact this rfl
theorem trim_reg (n : Int) : trimPrefix (regL n) [120] = itoa n := by
  unfold trimPrefix regL
  rw [if_pos (by simp [hasPrefix, List.isPrefixOf])]
  rfl
theorem numX_itoa (n : Int) (h0 : -9223372036854775808 < n) (h1 : n < 9223372036854775808) : numX (itoa n) = n := by
  unfold numX atoiV; rw [trim_itoa, atoi_itoa n h0 h1]
theorem numX_reg (n : Int) (h0 : -9223372036854775808 < n) (h1 : n < 9223372036854775808) : numX (regL n) = n := by
  unfold numX atoiV; rw [trim_reg, atoi_itoa n h0 h1]

theorem mark32 : isMark 32 = true := rfl
theorem mark44 : isMark 44 = true := rfl
theorem mark40 : isMark 40 = true := rfl
theorem mark41 : isMark 41 = true := rfl

theorem fields3 (a b c : Str) (ha : a ≠ []) (hb : b ≠ []) (hc : c ≠ []) (ma : ∀ x ∈ a, isMark x = false) (mb : ∀ x ∈ b, isMark x = false) (mc : ∀ x ∈ c, isMark x = false) :
    fieldsFrom [] (a ++ 44 :: 32 :: (b ++ 44 :: 32 :: c)) = [a, b, c] := by
  rw [fields_mark mark44 ha ma, fields_skip mark32, fields_mark mark44 hb mb, fields_skip mark32, fields_end hc mc]
theorem fields2 (a b : Str) (ha : a ≠ []) (hb : b ≠ []) (ma : ∀ x ∈ a, isMark x = false) (mb : ∀ x ∈ b, isMark x = false) :
    fieldsFrom [] (a ++ 44 :: 32 :: b) = [a, b] := by
  rw [fields_mark mark44 ha ma, fields_skip mark32, fields_end hb mb]
theorem fields3b (a b c : Str) (ha : a ≠ []) (hb : b ≠ []) (hc : c ≠ []) (ma : ∀ x ∈ a, isMark x = false) (mb : ∀ x ∈ b, isMark x = false) (mc : ∀ x ∈ c, isMark x = false) :
    fieldsFrom [] (a ++ 44 :: 32 :: (b ++ 40 :: (c ++ [41]))) = [a, b, c] := by
  rw [fields_mark mark44 ha ma, fields_skip mark32, fields_mark mark40 hb mb, fields_mark mark41 hc mc]
  rfl

/-! The operands of each form, in plain words. -/
theorem rest_U (op : Nat) (i : I6) : restL 85 op i = regL i.rd ++ 44 :: 32 :: itoa (i.imm.tdiv 4096) := by simp [restL, operK, toldL]
theorem rest_J (op : Nat) (i : I6) : restL 74 op i = regL i.rd ++ 44 :: 32 :: itoa i.imm := by simp [restL, operK, toldL]
theorem rest_I (k op : Nat) (hk : k = 73 ∨ k = 70 ∨ k = 72) (i : I6) : restL k op i = regL i.rd ++ 44 :: 32 :: (regL i.rs1 ++ 44 :: 32 :: itoa i.imm) := by
  rcases hk with rfl | rfl | rfl <;> simp [restL, operK, toldL]
theorem rest_L (op : Nat) (i : I6) : restL 76 op i = regL i.rd ++ 44 :: 32 :: (itoa i.imm ++ 40 :: (regL i.rs1 ++ [41])) := by simp [restL, operK, toldL]
theorem rest_B (op : Nat) (i : I6) : restL 66 op i = regL i.rs1 ++ 44 :: 32 :: (regL i.rs2 ++ 44 :: 32 :: itoa i.imm) := by simp [restL, operK, toldL]
theorem rest_S (op : Nat) (i : I6) : restL 83 op i = regL i.rs2 ++ 44 :: 32 :: (itoa i.imm ++ 40 :: (regL i.rs1 ++ [41])) := by simp [restL, operK, toldL]
theorem rest_R (op : Nat) (i : I6) : restL 82 op i = regL i.rd ++ 44 :: 32 :: (regL i.rs1 ++ 44 :: 32 :: regL i.rs2) := by simp [restL, operK, toldL]
theorem rest_Ci (op : Nat) (h : 54 ≤ op) (i : I6) : restL 67 op i = regL i.rd ++ 44 :: 32 :: (itoa i.csr ++ 44 :: 32 :: itoa i.rs1) := by simp [restL, operK, toldL, h]
theorem rest_C (op : Nat) (h : ¬ 54 ≤ op) (i : I6) : restL 67 op i = regL i.rd ++ 44 :: 32 :: (itoa i.csr ++ 44 :: 32 :: regL i.rs1) := by simp [restL, operK, toldL, h]
theorem rest_N (op : Nat) (i : I6) : restL 78 op i = [] := by simp [restL, operK]

theorem tdiv_back (z : Int) (h0 : -2147483648 ≤ z ∧ z ≤ 2147483647 ∧ z % 4096 = 0) : wrap64 (z.tdiv 4096 * 4096) = z ∧ -9223372036854775808 < z.tdiv 4096 ∧ z.tdiv 4096 < 9223372036854775808 := by
  obtain ⟨q, rfl⟩ : ∃ q, z = q * 4096 := ⟨z / 4096, by omega⟩
  rw [Int.mul_tdiv_cancel _ (by decide)]
  unfold wrap64; omega

/-- Of its own operands the guess is the instruction. -/
theorem guess_rest (k op : Nat) (hk : IsKind k) (i : I6) (hi : i.op = op) (hv : ValidK k i) : guessFrom ⟨op, 0, 0, 0, 0, 0⟩ (lettersK k op) (fieldsFrom [] (restL k op i)) = i := by
  obtain ⟨o, rd, rs1, rs2, imm, csr⟩ := i
  simp only at hi
  subst hi
  rcases hk with rfl | rfl | rfl | rfl | rfl | rfl | rfl | rfl | rfl | rfl | rfl
  · simp [ValidK] at hv
    obtain ⟨e1, e2, e3⟩ := tdiv_back imm ⟨by omega, by omega, by omega⟩
    rw [rest_U, fields2 _ _ (reg_ne _) (itoa_ne _) (reg_mark _) (itoa_mark _)]
    simp only [lettersK, if_true, guessFrom, withL, numX_reg rd (by omega) (by omega), numX_itoa _ e2 e3]
    simp [hv, e1]
  · simp [ValidK] at hv
    rw [rest_J, fields2 _ _ (reg_ne _) (itoa_ne _) (reg_mark _) (itoa_mark _)]
    simp [lettersK, guessFrom, withL, numX_reg rd (by omega) (by omega), numX_itoa imm (by omega) (by omega), hv]
  · simp [ValidK] at hv
    rw [rest_I 73 _ (by decide), fields3 _ _ _ (reg_ne _) (reg_ne _) (itoa_ne _) (reg_mark _) (reg_mark _) (itoa_mark _)]
    simp [lettersK, guessFrom, withL, numX_reg rd (by omega) (by omega), numX_reg rs1 (by omega) (by omega), numX_itoa imm (by omega) (by omega), hv]
  · simp [ValidK] at hv
    rw [rest_L, fields3b _ _ _ (reg_ne _) (itoa_ne _) (reg_ne _) (reg_mark _) (itoa_mark _) (reg_mark _)]
    simp [lettersK, guessFrom, withL, numX_reg rd (by omega) (by omega), numX_reg rs1 (by omega) (by omega), numX_itoa imm (by omega) (by omega), hv]
  · simp [ValidK] at hv
    rw [rest_I 70 _ (by decide), fields3 _ _ _ (reg_ne _) (reg_ne _) (itoa_ne _) (reg_mark _) (reg_mark _) (itoa_mark _)]
    simp [lettersK, guessFrom, withL, numX_reg rd (by omega) (by omega), numX_reg rs1 (by omega) (by omega), numX_itoa imm (by omega) (by omega), hv]
  · simp [ValidK] at hv
    by_cases h54 : 54 ≤ op
    · rw [rest_Ci _ h54, fields3 _ _ _ (reg_ne _) (itoa_ne _) (itoa_ne _) (reg_mark _) (itoa_mark _) (itoa_mark _)]
      simp [lettersK, h54, guessFrom, withL, numX_reg rd (by omega) (by omega), numX_itoa rs1 (by omega) (by omega), numX_itoa csr (by omega) (by omega), hv]
    · rw [rest_C _ h54, fields3 _ _ _ (reg_ne _) (itoa_ne _) (reg_ne _) (reg_mark _) (itoa_mark _) (reg_mark _)]
      simp [lettersK, h54, guessFrom, withL, numX_reg rd (by omega) (by omega), numX_reg rs1 (by omega) (by omega), numX_itoa csr (by omega) (by omega), hv]
  · simp [ValidK] at hv
    rw [rest_B, fields3 _ _ _ (reg_ne _) (reg_ne _) (itoa_ne _) (reg_mark _) (reg_mark _) (itoa_mark _)]
    simp [lettersK, guessFrom, withL, numX_reg rs2 (by omega) (by omega), numX_reg rs1 (by omega) (by omega), numX_itoa imm (by omega) (by omega), hv]
  · simp [ValidK] at hv
    rw [rest_S, fields3b _ _ _ (reg_ne _) (itoa_ne _) (reg_ne _) (reg_mark _) (itoa_mark _) (reg_mark _)]
    simp [lettersK, guessFrom, withL, numX_reg rs2 (by omega) (by omega), numX_reg rs1 (by omega) (by omega), numX_itoa imm (by omega) (by omega), hv]
  · simp [ValidK] at hv
    rw [rest_I 72 _ (by decide), fields3 _ _ _ (reg_ne _) (reg_ne _) (itoa_ne _) (reg_mark _) (reg_mark _) (itoa_mark _)]
    simp [lettersK, guessFrom, withL, numX_reg rd (by omega) (by omega), numX_reg rs1 (by omega) (by omega), numX_itoa imm (by omega) (by omega), hv]
  · simp [ValidK] at hv
    rw [rest_R, fields3 _ _ _ (reg_ne _) (reg_ne _) (reg_ne _) (reg_mark _) (reg_mark _) (reg_mark _)]
    simp [lettersK, guessFrom, withL, numX_reg rd (by omega) (by omega), numX_reg rs1 (by omega) (by omega), numX_reg rs2 (by omega) (by omega), hv]
  · simp [ValidK] at hv
    simp [lettersK, guessFrom, hv]

/-! A text cut at its first blank. -/
theorem indexByte_at (c : UInt8) : ∀ (a r : Str), (∀ x ∈ a, x ≠ c) → indexByte (a ++ c :: r) c = a.length
  | [], r, _ => by simp [indexByte]
  | x :: a, r, h => by
    have hx := h x (by simp)
    have ih := indexByte_at c a r (fun y hy => h y (by simp [hy]))
    simp only [List.cons_append, indexByte, ih]
    simp [hx]
theorem indexByte_no (c : UInt8) : ∀ (a : Str), (∀ x ∈ a, x ≠ c) → indexByte a c = -1
  | [], _ => by simp [indexByte]
  | x :: a, h => by
    have hx := h x (by simp)
    have ih := indexByte_no c a (fun y hy => h y (by simp [hy]))
    simp only [indexByte, ih]
    simp [hx]
theorem cut_at (c : UInt8) (a r : Str) (h : ∀ x ∈ a, x ≠ c) : cut (a ++ c :: r) [c] = (a, r, true) := by
  have e : index (a ++ c :: r) [c] = a.length := by rw [index_one, indexByte_at c a r h]
  unfold cut
  rw [e, if_pos (by omega)]
  simp
theorem cut_no (c : UInt8) (a : Str) (h : ∀ x ∈ a, x ≠ c) : cut a [c] = (a, [], false) := by
  have e : index a [c] = -1 := by rw [index_one, indexByte_no c a h]
  unfold cut
  rw [e, if_neg (by omega)]

theorem names_plain : ∀ x ∈ nameL, ∀ c ∈ x, 46 ≤ c.toNat ∧ c ≠ 58 := by decide +kernel
theorem nameS_mem {op : Nat} (h : op < 57) : nameS op ∈ nameL := by
  have h' : op < nameL.length := h
  unfold nameS
  rw [List.getD_eq_getElem?_getD, List.getElem?_eq_getElem h']
  exact List.getElem_mem h'
theorem nameS_noBlank {op : Nat} (h : op < 57) : ∀ x ∈ nameS op, x ≠ 32 := by
  intro x hx e
  subst e
  have := names_plain _ (nameS_mem h) 32 hx
  revert this; decide
theorem findS_name {op : Nat} (h : op < 57) : findS (nameS op) = some op := by
  have e : (⟨(nameS op).toArray⟩ : ByteArray) = nameN op := rfl
  unfold findS
  rw [e]
  cases hf : fndOp (nameN op) with
  | none => exact absurd rfl (fndOp_none hf op h)
  | some o =>
    obtain ⟨h1, h2⟩ := fndOp_some hf
    rw [nameN_inj o op h1 h h2]
theorem findS_some {s : Str} {op : Nat} (h : findS s = some op) : op < 57 ∧ nameS op = s := by
  obtain ⟨h1, h2⟩ := fndOp_some h
  refine ⟨h1, ?_⟩
  unfold nameN at h2
  simp only [ByteArray.mk.injEq] at h2
  have := congrArg Array.toList h2
  rw [List.toList_toArray, List.toList_toArray] at this
  exact this

theorem encOk_valid {i : I6} (h : encOk i = true) : (0 ≤ i.op ∧ i.op < 57) ∧ ValidK (kindN i.op.toNat) i := by
  unfold encOk at h
  rw [Bool.and_eq_true, decide_eq_true_eq, I6.same_iff] at h
  exact ⟨h.1, told_ok _ (op_nat h.1).1 i h.2⟩
theorem valid_encOk {i : I6} (h : 0 ≤ i.op ∧ i.op < 57) (hv : ValidK (kindN i.op.toNat) i) : encOk i = true := by
  unfold encOk
  rw [Bool.and_eq_true, decide_eq_true_eq, I6.same_iff]
  exact ⟨h, (valid_ok _ (op_nat h).1 i (op_nat h).2 hv).1⟩

/-- The text's first piece is the name, what follows are the operands. -/
theorem cut_text (i : I6) (h : encOk i = true) : (cut (textL i) [32]).1 = nameS i.op.toNat ∧ (cut (textL i) [32]).2.1 = restL (kindN i.op.toNat) i.op.toNat i := by
  obtain ⟨h1, h2⟩ := encOk_valid h
  have hb := nameS_noBlank (op_nat h1).1
  unfold textL textK
  by_cases ho : operK (kindN i.op.toNat) i.op.toNat = []
  · rw [if_pos ho, show restL (kindN i.op.toNat) i.op.toNat i = [] by unfold restL; rw [ho]; rfl, List.append_nil, List.append_nil, cut_no 32 _ hb]
    exact ⟨rfl, rfl⟩
  · rw [if_neg ho, List.singleton_append, cut_at 32 _ _ hb]
    exact ⟨rfl, rfl⟩

theorem parse_text (i : I6) (h : encOk i = true) : parseL (textL i) = some i := by
  obtain ⟨e1, e2⟩ := cut_text i h
  obtain ⟨h1, h2⟩ := encOk_valid h
  obtain ⟨h3, h4⟩ := op_nat h1
  have hg : guessL i.op.toNat (restL (kindN i.op.toNat) i.op.toNat i) = i := guess_rest _ _ (kindN_is _ h3) i h4 h2
  unfold parseL
  rw [e1, e2, findS_name h3]
  simp only [hg, h, and_self, if_true]

theorem parse_some {s : Str} {i : I6} (h : parseL s = some i) : encOk i = true ∧ textL i = s := by
  unfold parseL at h
  split at h
  · cases h
  · split at h
    · rename_i hc
      injection h with h
      subst h
      exact hc
    · cases h

theorem parse_iff (s : Str) (i : I6) : parseL s = some i ↔ encOk i = true ∧ textL i = s :=
  ⟨parse_some, fun ⟨h1, h2⟩ => h2 ▸ parse_text i h1⟩
end Go.Proofs.YtoekcfbjdcibpaaGreatDoor
