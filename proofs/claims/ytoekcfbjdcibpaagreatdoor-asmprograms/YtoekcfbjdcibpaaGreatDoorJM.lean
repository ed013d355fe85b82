/-
  Plain texts: the document's programs are the program's. No Go in sight.
-/
import Derived.Test.YtoekcfbjdcibpaaGreatDoorJB
import Derived.Test.YtoekcfbjdcibpaaGreatDoorJG
namespace Go.Proofs.YtoekcfbjdcibpaaGreatDoor
open Go.RowKit Go.Lib
set_option linter.unusedVariables false

/-! Labels. -/
def nameD (x : Str) : Bool := (decide (0 < x.length) && decide (x.length ≤ 16)) && x.all isLow
def labD (t : Str) : Bool := (decide (1 < t.length) && t.getLast? == some 58) && nameD t.dropLast
theorem suffix_one (t : Str) (c : UInt8) : hasSuffix t [c] = (t.getLast? == some c) := by
  unfold hasSuffix
  rw [Bool.eq_iff_iff, List.isSuffixOf_iff_suffix, beq_iff_eq, List.getLast?_eq_some_iff]
  exact ⟨fun ⟨p, h⟩ => ⟨p, h.symm⟩, fun ⟨p, h⟩ => ⟨p, h.symm⟩⟩
theorem label_is (t : Str) : labelL t = if labD t = true then t.dropLast else [] := by
  unfold labelL labD nameD trimSuffix
  rw [suffix_one]
  have e : t.take (t.length - [(58 : UInt8)].length) = t.dropLast := by rw [List.dropLast_eq_take]; rfl
  rw [e]
  cases h : (t.getLast? == some 58) with
  | false => simp
  | true =>
    simp only [if_true, true_and]
    have hl : t.dropLast.length = t.length - 1 := List.length_dropLast
    by_cases h1 : 1 < t.length
    · have h2 : 0 < t.dropLast.length := by omega
      simp only [decide_eq_true h1, decide_eq_true h2, Bool.true_and, Bool.and_eq_true, decide_eq_true_eq]
    · have h2 : ¬ 0 < t.dropLast.length := by omega
      have h3 : t.dropLast = [] := List.length_eq_zero_iff.1 (by omega)
      simp only [decide_eq_false h1, Bool.false_and, h3]
      simp
theorem label_ne (t : Str) : labelL t = [] ↔ labD t = false := by
  rw [label_is]
  cases h : labD t with
  | false => simp
  | true =>
    have : t.dropLast ≠ [] := fun e => by
      unfold labD nameD at h
      rw [e] at h
      simp at h
    simp [this]
theorem label_name {t : Str} (h : labD t = true) : nameD t.dropLast = true := by
  unfold labD at h
  simp only [Bool.and_eq_true] at h
  exact h.2

/-! The last blank. -/
theorem data_get (t : Str) (j : Nat) (h : j < t.length) : (ByteArray.mk t.toArray).data[j]! = t[j] := by
  simp [h]
theorem last_at (P u : Str) (hu : ∀ x ∈ u, x ≠ 32) : lastL (P ++ 32 :: u) = P.length + 1 := by
  obtain ⟨h1, h2, h3⟩ := last_spec (P ++ 32 :: u)
  have hs : (ByteArray.mk (P ++ 32 :: u).toArray).size = (P ++ 32 :: u).length := by simp [ByteArray.size]
  have hl : (P ++ 32 :: u).length = P.length + 1 + u.length := by simp; omega
  have := lastIdx_spec ⟨(P ++ 32 :: u).toArray⟩ 32 (P ++ 32 :: u).length
  unfold lastIndexByte at h1
  rw [hs] at h1
  rcases this with ⟨h, hn⟩ | ⟨i, hi, h, hc, hn⟩
  · have := hn P.length (by omega)
    rw [data_get _ _ (by omega)] at this
    simp at this
  · rw [h] at h1
    have hi2 : i = P.length := by
      rcases Nat.lt_trichotomy i P.length with hlt | rfl | hgt
      · have := hn P.length hlt (by omega)
        rw [data_get _ _ (by omega)] at this
        simp at this
      · rfl
      · exfalso
        rw [data_get _ _ hi] at hc
        have hm : (P ++ 32 :: u)[i] ∈ u := by
          rw [List.getElem_append_right (by omega)]
          obtain ⟨d, hd⟩ : ∃ d, i - P.length = d + 1 := ⟨i - P.length - 1, by omega⟩
          simp only [hd, List.getElem_cons_succ]
          exact List.getElem_mem _
        refine hu _ hm (UInt8.toNat_inj.1 ?_)
        show _ = 32
        omega
    omega
theorem last_none (t : Str) (h : ∀ x ∈ t, x ≠ 32) : lastL t = 0 := by
  obtain ⟨h1, h2, h3⟩ := last_spec t
  have hs : (ByteArray.mk t.toArray).size = t.length := by simp [ByteArray.size]
  have := lastIdx_spec ⟨t.toArray⟩ 32 t.length
  unfold lastIndexByte at h1
  rw [hs] at h1
  rcases this with ⟨h', hn⟩ | ⟨i, hi, h', hc, hn⟩
  · rw [h'] at h1; omega
  · exfalso
    rw [data_get _ _ hi] at hc
    refine h _ (List.getElem_mem hi) (UInt8.toNat_inj.1 ?_)
    show _ = 32
    omega
theorem last_two {P u Q v : Str} (hu : ∀ x ∈ u, x ≠ 32) (hv : ∀ x ∈ v, x ≠ 32) (h : P ++ 32 :: u = Q ++ 32 :: v) : P = Q ∧ u = v := by
  have h1 := last_at P u hu
  rw [h, last_at Q v hv] at h1
  have h2 := List.append_inj h (by omega)
  exact ⟨h2.1, by injection h2.2⟩
/-- Where a text has a blank: what stands ahead of its last one, and behind. -/
theorem last_split {t : Str} (h : ∃ x ∈ t, x = 32) : ∃ P u, t = P ++ 32 :: u ∧ ∀ x ∈ u, x ≠ 32 := by
  induction t with
  | nil => obtain ⟨x, hx, _⟩ := h; cases hx
  | cons c r ih =>
    by_cases hr : ∃ x ∈ r, x = 32
    · obtain ⟨P, u, e, hu⟩ := ih hr
      exact ⟨c :: P, u, by rw [e]; rfl, hu⟩
    · obtain ⟨x, hx, e⟩ := h
      rcases List.mem_cons.1 hx with rfl | hx
      · exact ⟨[], r, by rw [e]; rfl, fun y hy e => hr ⟨y, hy, e⟩⟩
      · exact absurd ⟨x, hx, e⟩ hr

/-! Names are neither numbers nor parted. -/
theorem low_no {c d : UInt8} (h : isLow c = true) (hd : d.toNat < 97) : c ≠ d := fun e => by
  subst e
  unfold isLow at h
  simp at h
  omega
theorem nameD_no {x : Str} (h : nameD x = true) (d : UInt8) (hd : d.toNat < 97) : ∀ c ∈ x, c ≠ d := fun c hc => by
  unfold nameD at h
  simp only [Bool.and_eq_true, List.all_eq_true] at h
  exact low_no (h.2 c hc) hd
theorem name_ne {x : Str} (h : nameD x = true) : x ≠ [] := fun e => by
  subst e
  simp [nameD] at h
theorem itoa_chars (n : Int) : ∀ c ∈ itoa n, c.toNat < 97 := fun c hc => by
  unfold itoa at hc
  split at hc
  · rcases List.mem_cons.1 hc with rfl | hc
    · decide
    · have := decDigits_dig _ c hc
      unfold isDig at this
      simp at this
      omega
  · have := decDigits_dig _ c hc
    unfold isDig at this
    simp at this
    omega
theorem itoa_neD (n : Int) : itoa n ≠ [] := by
  unfold itoa
  split
  · simp
  · exact decDigits_ne _
theorem name_itoa {x : Str} (h : nameD x = true) (n : Int) : x ≠ itoa n := fun e => by
  subst e
  obtain ⟨c, r, hcr⟩ := List.exists_cons_of_ne_nil (itoa_neD n)
  have h1 := itoa_chars n c (by rw [hcr]; simp)
  have h2 := nameD_no h c h1 c (by rw [hcr]; simp)
  exact h2 rfl

/-! A line's words. -/
/-- A branch's or a jump's text has its number last. -/
theorem bj_last {s : Str} {i : I6} {op : Nat} (h : dParse s = some i) (hf : findS (cut s [32]).1 = some op) (hk : kindN op = 66 ∨ kindN op = 74) :
    ∃ (A : Str) (n : Int), s = (cut s [32]).1 ++ 32 :: (A ++ 44 :: 32 :: itoa n) ∧ (operD s).getLast? = some (itoa n) ∧ ∀ z : Str, (∀ x ∈ z, x ≠ 44) → operD s ≠ [] → (∀ f, 3 ≤ f → (partsF f (A ++ 44 :: 32 :: z)).getLast? = some z) := by
  unfold dParse at h
  rw [hf] at h
  simp only at h
  cases hd : foldD op ⟨op, 0, 0, 0, 0, 0⟩ (shapeK (kindN op)) (operD s) with
  | none => rw [hd] at h; cases h
  | some j =>
    rcases hk with hk | hk
    · rw [hk] at hd
      obtain ⟨x, y, z, k, k2, hl, h1, h2, h3⟩ := fold_three (c := 115) (d := 116) (e := 110) hd
      obtain ⟨n1, rfl, _⟩ := put_s h1
      obtain ⟨n2, rfl, _⟩ := put_t h2
      obtain ⟨n3, rfl, _⟩ := put_n h3
      have hc := operD_cons (s := s) (by rw [hl]; simp)
      refine ⟨regL n1 ++ 44 :: 32 :: regL n2, n3, ?_, by rw [hl]; rfl, fun z hz _ f hf => ?_⟩
      · rw [hl] at hc
        rw [List.append_assoc]
        exact hc
      · rw [List.append_assoc]
        have := parts3 f (regL n1) (regL n2) z (reg_no 44 (by decide) _) (reg_no 44 (by decide) _) hz hf
        rw [show regL n1 ++ (44 :: 32 :: regL n2 ++ 44 :: 32 :: z) = regL n1 ++ 44 :: 32 :: (regL n2 ++ 44 :: 32 :: z) from rfl, this]
        rfl
    · rw [hk] at hd
      obtain ⟨x, y, k, hl, h1, h2⟩ := fold_two (c := 100) (d := 110) hd
      obtain ⟨n1, rfl, _⟩ := put_d h1
      obtain ⟨n3, rfl, _⟩ := put_n h2
      have hc := operD_cons (s := s) (by rw [hl]; simp)
      refine ⟨regL n1, n3, ?_, by rw [hl]; rfl, fun z hz _ f hf => ?_⟩
      · rw [hl] at hc
        exact hc
      · rw [parts2 f (regL n1) z (reg_no 44 (by decide) _) hz (by omega)]
        rfl
/-- The document's line with the number that its label means. -/
def headD (t : Str) : Str := (cut t [32]).1 ++ 32 :: ((operD t).dropLast.flatMap fun x => x ++ [44, 32])
def takesD (t : Str) : Bool := match findS (cut t [32]).1 with
  | none => false
  | some op => (kindN op == 66 || kindN op == 74) && (!(operD t).isEmpty && nameD ((operD t).getLast?.getD []))
def repD (t : Str) (k : Nat) (m : Labs) : Option Str :=
  if takesD t = true then (match lookL m ((operD t).getLast?.getD []) with | none => none | some p => some (headD t ++ itoa ((p : Int) - (k : Int) * 4))) else some t
theorem joinD_last : ∀ l : List Str, l ≠ [] → joinD l = (l.dropLast.flatMap fun x => x ++ [44, 32]) ++ l.getLast?.getD []
  | [], h => absurd rfl h
  | [x], _ => by simp [joinD]
  | x :: y :: r, _ => by
    have ih := joinD_last (y :: r) (by simp)
    rw [joinD_cons x _ (by simp), ih]
    simp
theorem head_last {t : Str} (h : operD t ≠ []) : t = headD t ++ (operD t).getLast?.getD [] := by
  have h1 := operD_cons h
  rw [joinD_last _ h] at h1
  unfold headD
  rw [List.append_assoc]
  exact h1
theorem flat_blank : ∀ l : List Str, l ≠ [] → ∃ P, (l.flatMap fun x => x ++ [44, 32]) = P ++ [32]
  | [], h => absurd rfl h
  | [x], _ => ⟨x ++ [44], by simp⟩
  | x :: y :: r, _ => by
    obtain ⟨P, hP⟩ := flat_blank (y :: r) (by simp)
    exact ⟨x ++ [44, 32] ++ P, by rw [List.flatMap_cons, hP]; simp⟩
theorem head_blank (t : Str) : ∃ P, headD t = P ++ [32] := by
  unfold headD
  by_cases h : (operD t).dropLast = []
  · exact ⟨(cut t [32]).1, by rw [h]; rfl⟩
  · obtain ⟨P, hP⟩ := flat_blank _ h
    exact ⟨(cut t [32]).1 ++ 32 :: P, by rw [hP]; simp⟩
/-- The text ahead of the first blank has none. -/
theorem cut_blank (t : Str) : ∀ x ∈ (cut t [32]).1, x ≠ 32 := by
  intro x hx e
  subst e
  have hocc : ∀ j (hj : j < t.length), t[j] = 32 → occAt t [32] j = true := fun j hj e => by
    unfold occAt
    rw [List.isPrefixOf_iff_prefix, List.drop_eq_getElem_cons hj, e]
    exact ⟨_, rfl⟩
  unfold cut at hx
  rcases index_spec t [32] with ⟨h1, h2⟩ | ⟨i, h1, h2, h3, h4⟩
  · rw [h1, if_neg (by decide)] at hx
    obtain ⟨j, hj, e⟩ := List.mem_iff_getElem.1 hx
    have := h2 j (Nat.le_of_lt hj)
    rw [hocc j hj e] at this
    cases this
  · rw [h1, if_pos (by omega), Int.toNat_natCast] at hx
    obtain ⟨j, hj, e⟩ := List.mem_iff_getElem.1 hx
    simp only [List.length_take] at hj
    rw [List.getElem_take] at e
    have := h4 j (by omega)
    rw [hocc j (by omega) e] at this
    cases this
theorem cut_first (a r : Str) (h : ∀ x ∈ a, x ≠ 32) : (cut (a ++ 32 :: r) [32]).1 = a := by
  have h1 := cut_blank (a ++ 32 :: r)
  cases hc : (cut (a ++ 32 :: r) [32]).2.2 with
  | false =>
    have := (cut_nay hc).1
    rw [this] at h1
    exact absurd rfl (h1 32 (by simp))
  | true =>
    have h2 := cut_yes hc
    generalize (cut (a ++ 32 :: r) [32]).1 = b at *
    generalize (cut (a ++ 32 :: r) [32]).2.1 = q at *
    rcases Nat.lt_trichotomy a.length b.length with hl | hl | hl
    · exfalso
      have e : (a ++ 32 :: r)[a.length]? = (b ++ ([32] ++ q))[a.length]? := by rw [← h2]
      rw [List.getElem?_append_right (Nat.le_refl _), List.getElem?_append_left hl] at e
      simp at e
      exact h1 _ (List.mem_of_getElem? e.symm) rfl
    · exact (List.append_inj h2 hl).1.symm
    · exfalso
      have e : (a ++ 32 :: r)[b.length]? = (b ++ ([32] ++ q))[b.length]? := by rw [← h2]
      rw [List.getElem?_append_left hl, List.getElem?_append_right (Nat.le_refl _)] at e
      simp at e
      exact h _ (List.mem_of_getElem? e) rfl
theorem cut_none_blank {t : Str} (h : operD t = []) : ∀ x ∈ t, x ≠ 32 := by
  have h1 := cut_blank t
  rwa [operD_nil h] at h1
/-- No name begins like a number. -/
theorem names_low : ∀ op : Fin 57, ∃ c r, nameS op.val = c :: r ∧ 97 ≤ c.toNat := by
  intro op
  have h : ∀ op : Fin 57, ((nameS op.val).head?.map fun c => decide (97 ≤ c.toNat)) = some true := by decide +kernel
  have := h op
  cases hn : nameS op.val with
  | nil => rw [hn] at this; cases this
  | cons c r =>
    rw [hn] at this
    simp at this
    exact ⟨c, r, rfl, this⟩
theorem find_itoa (n : Int) : findS (cut (itoa n) [32]).1 = none := by
  rw [cut_no 32 _ (fun x hx e => by have := itoa_no 32 (by decide) n x hx; exact this e)]
  cases h : findS (itoa n) with
  | none => rfl
  | some op =>
    obtain ⟨h1, h2⟩ := findS_some h
    obtain ⟨c, r, e, hc⟩ := names_low ⟨op, h1⟩
    simp only at e
    have := itoa_chars n c (by rw [← h2, e]; simp)
    omega
theorem parse_itoa (n : Int) : parseL (itoa n) = none := by
  rw [← dParse_iff]
  unfold dParse
  rw [find_itoa]
theorem lastOf {l : List Str} (h : l ≠ []) : ∃ y, l.getLast? = some y := by
  cases e : l.getLast? with
  | none => exact absurd (List.getLast?_eq_none_iff.1 e) h
  | some y => exact ⟨y, rfl⟩
theorem rep_same (t : Str) (k : Nat) (m : Labs) (hm : ∀ x p, lookL m x = some p → nameD x = true) :
    (repD t k m).bind dParse = parseL (numberedL t ((k : Int) * 4) m) := by
  unfold repD takesD numberedL
  cases hf : findS (cut t [32]).1 with
  | none => simp only [Bool.false_eq_true, if_false, Option.bind_some, dParse_iff]
  | some op =>
    simp only
    rcases Bool.eq_false_or_eq_true (kindN op == 66 || kindN op == 74) with hk | hk
    rotate_left
    · simp only [hk, Bool.false_and, Bool.false_eq_true, if_false, Option.bind_some, dParse_iff]
    · have hk' : kindN op = 66 ∨ kindN op = 74 := by simpa using hk
      simp only [hk, Bool.true_and, if_true]
      by_cases hx : operD t = []
      · have hnb := cut_none_blank hx
        rw [hx]
        simp only [List.isEmpty_nil, Bool.not_true, Bool.false_and, Bool.false_eq_true, if_false, Option.bind_some]
        have hn : dParse t = none := by
          cases h : dParse t with
          | none => rfl
          | some i =>
            obtain ⟨A, n, e, h1, _⟩ := bj_last h hf hk'
            rw [hx] at h1
            cases h1
        rw [hn, last_none t hnb]
        cases hl : lookL m (t.drop 0) with
        | none => rw [← dParse_iff, hn]
        | some p => simp only [List.take_zero, List.nil_append]; rw [parse_itoa]
      · obtain ⟨y, hy⟩ := lastOf hx
        have ht := head_last hx
        obtain ⟨P, hP⟩ := head_blank t
        rw [hy] at ht ⊢
        simp only [Option.getD_some] at ht ⊢
        have he : (operD t).isEmpty = false := by
          cases h : (operD t).isEmpty with
          | false => rfl
          | true => exact absurd (List.isEmpty_iff.1 h) hx
        rw [he]
        simp only [Bool.not_false, Bool.true_and]
        have ht2 : t = P ++ 32 :: y := by rw [ht, hP]; simp
        cases hyn : nameD y with
        | true =>
          have hyb := nameD_no hyn 32 (by decide)
          have hL := last_at P y hyb
          rw [← ht2] at hL
          have hd : t.drop (lastL t) = y := by rw [hL]; conv => lhs; rw [ht2]; rw [show P ++ 32 :: y = (P ++ [32]) ++ y by simp]; rw [List.drop_left' (by simp)]
          have htk : t.take (lastL t) = headD t := by rw [hL, hP]; conv => lhs; rw [ht2]; rw [show P ++ 32 :: y = (P ++ [32]) ++ y by simp]; rw [List.take_left' (by simp)]
          rw [hd, htk]
          simp only [if_true]
          cases hlk : lookL m y with
          | none =>
            simp only [Option.bind_none]
            rw [← dParse_iff]
            cases h : dParse t with
            | none => rfl
            | some i =>
              obtain ⟨A, n, e, h1, _⟩ := bj_last h hf hk'
              rw [hy] at h1
              exact absurd (Option.some.inj h1) (name_itoa hyn n)
          | some p => simp only [Option.bind_some, dParse_iff]
        | false =>
          simp only [Bool.false_eq_true, if_false, Option.bind_some]
          cases hlk : lookL m (t.drop (lastL t)) with
          | none => simp only [dParse_iff]
          | some p =>
            have hz := hm _ _ hlk
            obtain ⟨P2, z, e2, hzb⟩ := last_split (t := t) ⟨32, by rw [ht2]; simp, rfl⟩
            have hL := last_at P2 z hzb
            rw [← e2] at hL
            have hd : t.drop (lastL t) = z := by rw [hL]; conv => lhs; rw [e2]; rw [show P2 ++ 32 :: z = (P2 ++ [32]) ++ z by simp]; rw [List.drop_left' (by simp)]
            have htk : t.take (lastL t) = P2 ++ [32] := by rw [hL]; conv => lhs; rw [e2]; rw [show P2 ++ 32 :: z = (P2 ++ [32]) ++ z by simp]; rw [List.take_left' (by simp)]
            rw [hd] at hz
            rw [htk]
            have hn1 : dParse t = none := by
              cases h : dParse t with
              | none => rfl
              | some i =>
                obtain ⟨A, n, e, h1, _⟩ := bj_last h hf hk'
                rw [hy] at h1
                have hyi := Option.some.inj h1
                have := last_two (P := P2) (Q := P) hzb (by rw [hyi]; exact itoa_no 32 (by decide) n) (e2.symm.trans ht2)
                rw [this.2, hyn] at hz
                cases hz
            rw [hn1]
            simp only
            obtain ⟨q, hq⟩ : ∃ q, itoa ((p : Int) - (k : Int) * 4) = itoa q := ⟨_, rfl⟩
            rw [hq, ← dParse_iff]
            have hcut : (cut (P2 ++ [32] ++ itoa q) [32]).1 = (cut t [32]).1 := by
              have hc := operD_cons hx
              have hnb := cut_blank t
              generalize (cut t [32]).1 = nm at *
              have h3 : nm ++ 32 :: joinD (operD t) = P2 ++ 32 :: z := hc.symm.trans e2
              rcases Nat.lt_trichotomy nm.length P2.length with hl | hl | hl
              · have h4 : P2 = nm ++ 32 :: (P2.drop (nm.length + 1)) := by
                  have h5 : (nm ++ 32 :: joinD (operD t)).take P2.length = P2 := by rw [h3]; simp
                  rw [← h5]
                  rw [show nm ++ 32 :: joinD (operD t) = (nm ++ [32]) ++ joinD (operD t) by simp]
                  rw [List.take_append]
                  have : ((nm ++ [32]).take P2.length) = nm ++ [32] := List.take_of_length_le (by simp; omega)
                  rw [this]
                  simp
                rw [h4]
                simp only [List.append_assoc, List.cons_append]
                rw [cut_at 32 _ _ hnb]
              · have := (List.append_inj h3 hl).1
                subst this
                rw [show nm ++ [32] ++ itoa q = nm ++ 32 :: itoa q by simp]
                rw [cut_at 32 _ _ hnb]
              · exfalso
                have e : (nm ++ 32 :: joinD (operD t))[P2.length]? = (P2 ++ 32 :: z)[P2.length]? := by rw [h3]
                rw [List.getElem?_append_left hl, List.getElem?_append_right (Nat.le_refl _)] at e
                simp at e
                exact hnb _ (List.mem_of_getElem? e) rfl
            cases h : dParse (P2 ++ [32] ++ itoa q) with
            | none => rfl
            | some i =>
              exfalso
              have hf2 : findS (cut (P2 ++ [32] ++ itoa q) [32]).1 = some op := by rw [hcut]; exact hf
              obtain ⟨A, n, e, h1, h2⟩ := bj_last h hf2 hk'
              rw [hcut] at e
              have e3 : P2 ++ 32 :: itoa q = ((cut t [32]).1 ++ 32 :: (A ++ [44])) ++ 32 :: itoa n := by
                rw [show P2 ++ 32 :: itoa q = P2 ++ [32] ++ itoa q by simp, e]; simp
              obtain ⟨e4, _⟩ := last_two (itoa_no 32 (by decide) q) (itoa_no 32 (by decide) n) e3
              have e5 : t = (cut t [32]).1 ++ 32 :: (A ++ 44 :: 32 :: z) := by
                have e6 := e2
                rw [e4] at e6
                simpa using e6
              have hop : operD t = partsF t.length (A ++ 44 :: 32 :: z) := by
                have hc3 := cut_at 32 (cut t [32]).1 (A ++ 44 :: 32 :: z) (cut_blank t)
                rw [← e5] at hc3
                unfold operD
                rw [hc3]
                simp
              have hlen : 3 ≤ t.length := by rw [e5]; simp; omega
              have := h2 z (nameD_no hz 44 (by decide)) (by intro h; rw [h] at h1; cases h1) t.length hlen
              rw [← hop, hy] at this
              rw [Option.some.inj this, hz] at hyn
              cases hyn
end Go.Proofs.YtoekcfbjdcibpaaGreatDoor
namespace Go.Proofs.YtoekcfbjdcibpaaGreatDoor
open Go.RowKit
set_option linter.unusedVariables false

theorem text_len (i : I6) (h : encOk i = true) : (textL i).length ≤ 1000 := by
  have h1 := rest_len i (valid_bounds h) (operK (kindN i.op.toNat) i.op.toNat)
  have h2 := oper_len (kindN i.op.toNat) i.op.toNat
  have h3 : (nameS i.op.toNat).length ≤ 8 := by
    unfold nameS
    rw [List.getD_eq_getElem?_getD]
    cases hx : nameL[i.op.toNat]? with
    | none => simp
    | some x => exact (name_len x (List.mem_of_getElem? hx)).1
  have h4 : (if operK (kindN i.op.toNat) i.op.toNat = [] then ([] : Str) else [32]).length ≤ 1 := by split <;> simp
  unfold textL textK restL
  rw [List.length_append, List.length_append]
  omega
theorem text_back (i : I6) (h : encOk i = true) (w : World) (hA : AsAt w) :
    Calls Tryz.prog 9 #[.agg i.cells] w fun e w' => e = .returned (.tuple #[.string ⟨(textL i).toArray⟩, .nilIface]) ∧ Below w.heap.size w w' := by
  have := text_all i w hA
  rw [if_pos h, show encN i = 0 by unfold encN; rw [if_pos h], errno_zero] at this
  exact this
theorem parse_hit (s : Str) (hs : s.length ≤ 100000) (i : I6) (h : parseL s = some i) (w : World) (hA : AsAt w) :
    Calls Tryz.prog 13 #[.string ⟨s.toArray⟩] w fun e w' => e = .returned (.tuple #[.agg i.cells, .nilIface]) ∧ Below w.heap.size w w' := by
  have := parse_all s hs w hA
  unfold parseI parseN at this
  rw [h] at this
  exact this
theorem parse_miss (s : Str) (hs : s.length ≤ 100000) (h : parseL s = none) (w : World) (hA : AsAt w) :
    Calls Tryz.prog 13 #[.string ⟨s.toArray⟩] w fun e w' => e = .returned (.tuple #[.agg noI.cells, .iface 69 (.int .i64 3)]) ∧ Below w.heap.size w w' := by
  have := parse_all s hs w hA
  unfold parseI parseN at this
  rw [h] at this
  exact this

/-- An instruction that lies there, whatever new block is made. -/
def SixOn (w : World) (b : Nat) (i : I6) : Prop :=
  (∀ o, (w.alloc o).cell? ⟨b, 0, none⟩ = some (.int .i64 i.op)) ∧ (∀ o, (w.alloc o).cell? ⟨b, 1, none⟩ = some (.int .i64 i.rd)) ∧ (∀ o, (w.alloc o).cell? ⟨b, 2, none⟩ = some (.int .i64 i.rs1)) ∧ (∀ o, (w.alloc o).cell? ⟨b, 3, none⟩ = some (.int .i64 i.rs2)) ∧ (∀ o, (w.alloc o).cell? ⟨b, 4, none⟩ = some (.int .i64 i.imm)) ∧ (∀ o, (w.alloc o).cell? ⟨b, 5, none⟩ = some (.int .i64 i.csr))
theorem SixAt.on {w : World} {b : Nat} {i : I6} (h : SixAt w b i) : SixOn w b i := by
  have hb : ∀ o, Below w.heap.size w (w.alloc o) := fun o => (Below.refl _ w).alloc (Nat.le_refl _) _
  have hl := block_lt_of_cell h.1
  exact ⟨fun o => (h.below (hb o) hl).1, fun o => (h.below (hb o) hl).2.1, fun o => (h.below (hb o) hl).2.2.1, fun o => (h.below (hb o) hl).2.2.2.1, fun o => (h.below (hb o) hl).2.2.2.2.1, fun o => (h.below (hb o) hl).2.2.2.2.2⟩
theorem six_new (w w2 : World) (i : I6) (t : TypeId) (h : Below (w.alloc (.cells i.cells t)).heap.size (w.alloc (.cells i.cells t)) w2) : SixAt w2 w.heap.size i ∧ Below w.heap.size w w2 :=
  ⟨(SixAt.new w i t).below h (by simp), below_new h⟩
theorem SixAt.then {w w2 : World} {b : Nat} {i : I6} (h : SixAt w b i) (hb : Below w.heap.size w w2) : SixAt w2 b i := h.below hb (block_lt_of_cell h.1)

/-- The first half: the world behind it, and what lies there. -/
def Half (i : I6) (w w2 : World) : Prop := SixAt w2 w.heap.size i ∧ Below w.heap.size w w2
theorem Half.step {i : I6} {w a b : World} (h : Half i w a) (k : Below a.heap.size a b) : Half i w b := ⟨h.1.then k, h.2.trans (k.mono h.2.size)⟩
theorem Half.box {i : I6} {w a b : World} {o : Obj} (h : Half i w a) (k : Below (a.alloc o).heap.size (a.alloc o) b) : Half i w b := h.step (below_new k)

set_option maxHeartbeats 4000000 in
set_option maxRecDepth 100000 in
theorem aback_xl (i : I6) (hi : encOk i = false) (s : Str) (hs : s.length ≤ 9223372036854775807) (hl : ¬ s.length ≤ 1000) (w : World) (hA : AsAt w) :
    Calls Tryz.prog 6 #[.agg i.cells, .string ⟨s.toArray⟩] w fun e w' => e = .returned (.bool true) ∧ Below w.heap.size w w' := by
  have HS := hide sure_any
  have HA := hide hA
  have HT := hide (text_all i)
  rw [errno_pos (encN i) (by unfold encN; rw [hi]; decide), hi] at HT
  have hsz : (ByteArray.mk s.toArray).size = s.length := by simp [ByteArray.size]
  have HH := hide (fun w2 => six_new w w2 i 23)
  clear hA
  clear hi
  simp only [I6.cells] at HT HH ⊢
  go_enter Tryz.func6, Tryz.ntmps6
  go_wp2_with (fail)
  refine (HT.out _ (HA.out.below (below_box w _))).mono ?_
  rintro e w2 ⟨rfl, hx⟩
  have HF : Hid (Half i w w2) := HH.out _ hx
  clear hx HT HH
  go_wp2_with (fail)
  refine (HS.out _ (HA.out.below HF.out.2)).mono ?_
  rintro e w9 ⟨rfl, hx⟩
  replace HF := hide (HF.out.step hx)
  clear hx
  go_wp2_with (fail)
  go_ret
  exact ⟨rfl, HF.out.2⟩

set_option maxHeartbeats 4000000 in
set_option maxRecDepth 100000 in
theorem aback_xn (i : I6) (hi : encOk i = false) (s : Str) (hs : s.length ≤ 9223372036854775807) (hl : s.length ≤ 1000) (hq : parseL s = none) (w : World) (hA : AsAt w) :
    Calls Tryz.prog 6 #[.agg i.cells, .string ⟨s.toArray⟩] w fun e w' => e = .returned (.bool true) ∧ Below w.heap.size w w' := by
  have HS := hide sure_any
  have HA := hide hA
  have HT := hide (text_all i)
  rw [errno_pos (encN i) (by unfold encN; rw [hi]; decide), hi] at HT
  have HQ := hide (parse_miss s (by omega) hq)
  have hsz : (ByteArray.mk s.toArray).size = s.length := by simp [ByteArray.size]
  have HH := hide (fun w2 => six_new w w2 i 23)
  clear hA
  clear hq
  clear hi
  simp only [I6.cells, noI] at HT HH HQ ⊢
  go_enter Tryz.func6, Tryz.ntmps6
  go_wp2_with (fail)
  refine (HT.out _ (HA.out.below (below_box w _))).mono ?_
  rintro e w2 ⟨rfl, hx⟩
  have HF : Hid (Half i w w2) := HH.out _ hx
  clear hx HT HH
  go_wp2_with (fail)
  refine (HQ.out _ (HA.out.below HF.out.2)).mono ?_
  rintro e w5 ⟨rfl, hx⟩
  replace HF := hide (HF.out.step hx)
  clear hx
  go_wp2_with (fail)
  refine (HS.out _ (HA.out.below (HF.out.2.trans ((below_box _ _).mono HF.out.2.size)))).mono ?_
  rintro e w9 ⟨rfl, hx⟩
  replace HF := hide (HF.out.box hx)
  clear hx
  go_wp2_with (fail)
  go_ret
  exact ⟨rfl, HF.out.2⟩

set_option maxHeartbeats 4000000 in
set_option maxRecDepth 100000 in
theorem aback_xs (i : I6) (hi : encOk i = false) (s : Str) (hs : s.length ≤ 9223372036854775807) (hl : s.length ≤ 1000) (j : I6) (hq : parseL s = some j) (w : World) (hA : AsAt w) :
    Calls Tryz.prog 6 #[.agg i.cells, .string ⟨s.toArray⟩] w fun e w' => e = .returned (.bool true) ∧ Below w.heap.size w w' := by
  have HS := hide sure_any
  have HA := hide hA
  have HT := hide (text_all i)
  rw [errno_pos (encN i) (by unfold encN; rw [hi]; decide), hi] at HT
  have HQ := hide (parse_hit s (by omega) j hq)
  have HU := hide (text_back j (parse_some hq).1)
  rw [(parse_some hq).2] at HU
  have hsz : (ByteArray.mk s.toArray).size = s.length := by simp [ByteArray.size]
  have HH := hide (fun w2 => six_new w w2 i 23)
  clear hA
  clear hq
  clear hi
  simp only [I6.cells] at HT HH HQ HU ⊢
  go_enter Tryz.func6, Tryz.ntmps6
  go_wp2_with (fail)
  refine (HT.out _ (HA.out.below (below_box w _))).mono ?_
  rintro e w2 ⟨rfl, hx⟩
  have HF : Hid (Half i w w2) := HH.out _ hx
  clear hx HT HH
  go_wp2_with (fail)
  refine (HQ.out _ (HA.out.below HF.out.2)).mono ?_
  rintro e w5 ⟨rfl, hx⟩
  replace HF := hide (HF.out.step hx)
  clear hx
  go_wp2_with (fail)
  refine (HU.out _ (HA.out.below (HF.out.2.trans ((below_box _ _).mono HF.out.2.size)))).mono ?_
  rintro e w6 ⟨rfl, hx⟩
  replace HF := hide (HF.out.box hx)
  clear hx
  go_wp2_with (fail)
  refine (HS.out _ (HA.out.below HF.out.2)).mono ?_
  rintro e w9 ⟨rfl, hx⟩
  replace HF := hide (HF.out.step hx)
  clear hx
  go_wp2_with (fail)
  go_ret
  exact ⟨rfl, HF.out.2⟩

set_option maxHeartbeats 4000000 in
set_option maxRecDepth 100000 in
theorem aback_ol (i : I6) (hi : encOk i = true) (s : Str) (hs : s.length ≤ 9223372036854775807) (hl : ¬ s.length ≤ 1000) (w : World) (hA : AsAt w) :
    Calls Tryz.prog 6 #[.agg i.cells, .string ⟨s.toArray⟩] w fun e w' => e = .returned (.bool true) ∧ Below w.heap.size w w' := by
  have HS := hide sure_any
  have HA := hide hA
  have HT := hide (text_back i hi)
  have HP := hide (parse_hit (textL i) (by have := text_len i hi; omega) i (parse_text i hi))
  have heq := eql_inst i i
  rw [I6.same_self] at heq
  have hsz : (ByteArray.mk s.toArray).size = s.length := by simp [ByteArray.size]
  have HH := hide (fun w2 => six_new w w2 i 23)
  clear hA
  generalize textL i = ti at *
  clear hi
  simp only [I6.cells] at HT HH HP heq ⊢
  go_enter Tryz.func6, Tryz.ntmps6
  go_wp2_with (fail)
  refine (HT.out _ (HA.out.below (below_box w _))).mono ?_
  rintro e w2 ⟨rfl, hx⟩
  have HF : Hid (Half i w w2) := HH.out _ hx
  clear hx HT HH
  go_wp2_with (fail)
  refine (HP.out _ (HA.out.below HF.out.2)).mono ?_
  rintro e w3 ⟨rfl, hx⟩
  replace HF := hide (HF.out.step hx)
  clear hx HP
  obtain ⟨a0, a1, a2, a3, a4, a5⟩ := HF.out.1.on
  go_wp2_with (fail)
  clear a0 a1 a2 a3 a4 a5
  refine (HS.out _ (HA.out.below (HF.out.2.trans ((below_box _ _).mono HF.out.2.size)))).mono ?_
  rintro e w9 ⟨rfl, hx⟩
  replace HF := hide (HF.out.box hx)
  clear hx
  go_wp2_with (fail)
  go_ret
  exact ⟨rfl, HF.out.2⟩

set_option maxHeartbeats 4000000 in
set_option maxRecDepth 100000 in
theorem aback_on (i : I6) (hi : encOk i = true) (s : Str) (hs : s.length ≤ 9223372036854775807) (hl : s.length ≤ 1000) (hq : parseL s = none) (w : World) (hA : AsAt w) :
    Calls Tryz.prog 6 #[.agg i.cells, .string ⟨s.toArray⟩] w fun e w' => e = .returned (.bool true) ∧ Below w.heap.size w w' := by
  have HS := hide sure_any
  have HA := hide hA
  have HT := hide (text_back i hi)
  have HP := hide (parse_hit (textL i) (by have := text_len i hi; omega) i (parse_text i hi))
  have heq := eql_inst i i
  rw [I6.same_self] at heq
  have HQ := hide (parse_miss s (by omega) hq)
  have hsz : (ByteArray.mk s.toArray).size = s.length := by simp [ByteArray.size]
  have HH := hide (fun w2 => six_new w w2 i 23)
  clear hA
  generalize textL i = ti at *
  clear hq
  clear hi
  simp only [I6.cells, noI] at HT HH HP heq HQ ⊢
  go_enter Tryz.func6, Tryz.ntmps6
  go_wp2_with (fail)
  refine (HT.out _ (HA.out.below (below_box w _))).mono ?_
  rintro e w2 ⟨rfl, hx⟩
  have HF : Hid (Half i w w2) := HH.out _ hx
  clear hx HT HH
  go_wp2_with (fail)
  refine (HP.out _ (HA.out.below HF.out.2)).mono ?_
  rintro e w3 ⟨rfl, hx⟩
  replace HF := hide (HF.out.step hx)
  clear hx HP
  obtain ⟨a0, a1, a2, a3, a4, a5⟩ := HF.out.1.on
  go_wp2_with (fail)
  clear a0 a1 a2 a3 a4 a5
  refine (HQ.out _ (HA.out.below (HF.out.2.trans ((below_box _ _).mono HF.out.2.size)))).mono ?_
  rintro e w5 ⟨rfl, hx⟩
  replace HF := hide (HF.out.box hx)
  clear hx
  go_wp2_with (fail)
  refine (HS.out _ (HA.out.below (HF.out.2.trans ((below_box _ _).mono HF.out.2.size)))).mono ?_
  rintro e w9 ⟨rfl, hx⟩
  replace HF := hide (HF.out.box hx)
  clear hx
  go_wp2_with (fail)
  go_ret
  exact ⟨rfl, HF.out.2⟩

set_option maxHeartbeats 4000000 in
set_option maxRecDepth 100000 in
theorem aback_os (i : I6) (hi : encOk i = true) (s : Str) (hs : s.length ≤ 9223372036854775807) (hl : s.length ≤ 1000) (j : I6) (hq : parseL s = some j) (w : World) (hA : AsAt w) :
    Calls Tryz.prog 6 #[.agg i.cells, .string ⟨s.toArray⟩] w fun e w' => e = .returned (.bool true) ∧ Below w.heap.size w w' := by
  have HS := hide sure_any
  have HA := hide hA
  have HT := hide (text_back i hi)
  have HP := hide (parse_hit (textL i) (by have := text_len i hi; omega) i (parse_text i hi))
  have heq := eql_inst i i
  rw [I6.same_self] at heq
  have HQ := hide (parse_hit s (by omega) j hq)
  have HU := hide (text_back j (parse_some hq).1)
  rw [(parse_some hq).2] at HU
  have hsz : (ByteArray.mk s.toArray).size = s.length := by simp [ByteArray.size]
  have HH := hide (fun w2 => six_new w w2 i 23)
  clear hA
  generalize textL i = ti at *
  clear hq
  clear hi
  simp only [I6.cells] at HT HH HP heq HQ HU ⊢
  go_enter Tryz.func6, Tryz.ntmps6
  go_wp2_with (fail)
  refine (HT.out _ (HA.out.below (below_box w _))).mono ?_
  rintro e w2 ⟨rfl, hx⟩
  have HF : Hid (Half i w w2) := HH.out _ hx
  clear hx HT HH
  go_wp2_with (fail)
  refine (HP.out _ (HA.out.below HF.out.2)).mono ?_
  rintro e w3 ⟨rfl, hx⟩
  replace HF := hide (HF.out.step hx)
  clear hx HP
  obtain ⟨a0, a1, a2, a3, a4, a5⟩ := HF.out.1.on
  go_wp2_with (fail)
  clear a0 a1 a2 a3 a4 a5
  refine (HQ.out _ (HA.out.below (HF.out.2.trans ((below_box _ _).mono HF.out.2.size)))).mono ?_
  rintro e w5 ⟨rfl, hx⟩
  replace HF := hide (HF.out.box hx)
  clear hx
  go_wp2_with (fail)
  refine (HU.out _ (HA.out.below (HF.out.2.trans ((below_box _ _).mono HF.out.2.size)))).mono ?_
  rintro e w6 ⟨rfl, hx⟩
  replace HF := hide (HF.out.box hx)
  clear hx
  go_wp2_with (fail)
  refine (HS.out _ (HA.out.below HF.out.2)).mono ?_
  rintro e w9 ⟨rfl, hx⟩
  replace HF := hide (HF.out.step hx)
  clear hx
  go_wp2_with (fail)
  go_ret
  exact ⟨rfl, HF.out.2⟩

theorem aback_any (i : I6) (s : Str) (hs : s.length ≤ 9223372036854775807) (w : World) (hA : AsAt w) :
    Calls Tryz.prog 6 #[.agg i.cells, .string ⟨s.toArray⟩] w fun e w' => e = .returned (.bool true) ∧ Below w.heap.size w w' := by
  by_cases hl : s.length ≤ 1000
  · cases hi : encOk i <;> cases hq : parseL s
    · exact aback_xn i hi s hs hl hq w hA
    · exact aback_xs i hi s hs hl _ hq w hA
    · exact aback_on i hi s hs hl hq w hA
    · exact aback_os i hi s hs hl _ hq w hA
  · cases hi : encOk i
    · exact aback_xl i hi s hs hl w hA
    · exact aback_ol i hi s hs hl w hA
end Go.Proofs.YtoekcfbjdcibpaaGreatDoor
namespace Go.Proofs.YtoekcfbjdcibpaaGreatDoor
open Go.Lib Go.RowKit
set_option linter.unusedVariables false

theorem pieces_line (a r : Str) (h : ∀ x ∈ a, x ≠ 10) : piecesL (a ++ 10 :: r) = a :: piecesL r := by
  have hc : count (a ++ 10 :: r) [10] = count r [10] + 1 := by
    rw [count_one, count_one, List.count_append, List.count_cons_self, List.count_eq_zero_of_not_mem (fun e => h 10 e rfl)]
    omega
  have hi : index (a ++ 10 :: r) [10] = a.length := by rw [index_one, indexByte_at 10 a r h]
  have hn : ¬ (((a.length : Int) == -1) = true) := by simp
  unfold piecesL split
  rw [hc, splitK, hi, if_neg hn]
  simp
theorem pieces_end (a : Str) (h : ∀ x ∈ a, x ≠ 10) : piecesL a = [a] := by
  have hc : count a [10] = 0 := by
    rw [count_one, List.count_eq_zero_of_not_mem (fun e => h 10 e rfl)]
  unfold piecesL split
  rw [hc, splitK]

/-- What the lines that say something say. -/
def showsL (s : Str) : List Str := ((piecesL s).map shownL).filter (fun t => !t.isEmpty)
theorem raw_shows : ∀ (ps : List Str) (k : Nat), (dropL isVoid (rawFrom k ps)).map (·.2) = (ps.map shownL).filter (fun t => !t.isEmpty)
  | [], k => rfl
  | t :: r, k => by
    have ih := raw_shows r (k + 1)
    unfold dropL at ih ⊢
    rw [rawFrom, List.filter_cons, List.map_cons, List.filter_cons]
    have e : isVoid (k + 1, shownL t) = (shownL t).isEmpty := rfl
    rw [e]
    split
    · rw [List.map_cons, ih]
    · exact ih
theorem said_shows (s : Str) : (saidL s).map (·.2) = showsL s := raw_shows _ _
theorem shows_line (a r : Str) (h : ∀ x ∈ a, x ≠ 10) (hs : shownL a ≠ []) : showsL (a ++ 10 :: r) = shownL a :: showsL r := by
  unfold showsL
  rw [pieces_line a r h, List.map_cons, List.filter_cons, if_pos (by simpa using hs)]
theorem shows_void (a r : Str) (h : ∀ x ∈ a, x ≠ 10) (hs : shownL a = []) : showsL (a ++ 10 :: r) = showsL r := by
  unfold showsL
  rw [pieces_line a r h, List.map_cons, List.filter_cons, hs]
  rfl
theorem shown_nil : shownL [] = [] := by decide
theorem shows_nil : showsL [] = [] := by
  unfold showsL
  rw [pieces_end [] (by simp)]
  decide

/-- A text as a line may say it. -/
structure Tidy (t : Str) : Prop where
  ne : t ≠ []
  plain : ∀ x ∈ t, x ≠ 35 ∧ x ≠ 10
  first : t.head? ≠ some 32
  last : t.getLast? ≠ some 32

theorem dropWhile_same (c : UInt8) : ∀ l : Str, l.head? ≠ some c → l.dropWhile (· == c) = l
  | [], _ => rfl
  | x :: l, h => by
    have : ¬ ((x == c) = true) := fun e => h (by rw [List.head?_cons, beq_iff_eq.1 e])
    rw [List.dropWhile_cons, if_neg this]
theorem dropWhile_rep (c : UInt8) (l : Str) : ∀ k, (List.replicate k c ++ l).dropWhile (· == c) = l.dropWhile (· == c)
  | 0 => rfl
  | k + 1 => by
    rw [List.replicate_succ, List.cons_append, List.dropWhile_cons, if_pos (by simp)]
    exact dropWhile_rep c l k
theorem trim_blanks {t : Str} (h : Tidy t) (k : Nat) : trimB (t ++ List.replicate k 32) 32 = t := by
  have e : trimRightB (t ++ List.replicate k 32) 32 = t := by
    unfold trimRightB
    rw [List.reverse_append, List.reverse_replicate, dropWhile_rep, dropWhile_same 32 _ (by rw [List.head?_reverse]; exact h.last), List.reverse_reverse]
  unfold trimB
  rw [e]
  exact dropWhile_same 32 t h.first
theorem shown_blanks {t : Str} (h : Tidy t) (k : Nat) : shownL (t ++ List.replicate k 32) = t := by
  unfold shownL
  rw [cut_no 35 _ (fun x hx => by
    rcases List.mem_append.1 hx with hx | hx
    · exact (h.plain x hx).1
    · rw [(List.mem_replicate.1 hx).2]; decide)]
  exact trim_blanks h k
theorem shown_note {t : Str} (h : Tidy t) (k : Nat) (r : Str) : shownL (t ++ List.replicate k 32 ++ 35 :: r) = t := by
  unfold shownL
  rw [cut_at 35 _ _ (fun x hx => by
    rcases List.mem_append.1 hx with hx | hx
    · exact (h.plain x hx).1
    · rw [(List.mem_replicate.1 hx).2]; decide)]
  exact trim_blanks h k
theorem shown_tidy {t : Str} (h : Tidy t) : shownL t = t := by simpa using shown_blanks h 0

/-! The text of an instruction. -/
def okC (c : UInt8) : Bool := c != 35 && c != 10 && c != 58
def lastC (c : UInt8) : Bool := c != 32 && c != 58
theorem dig_ok {c : UInt8} (h : isDig c = true) : okC c = true ∧ lastC c = true := by
  have hc : 48 ≤ c.toNat ∧ c.toNat ≤ 57 := by simpa [isDig] using h
  simp only [okC, lastC, Bool.and_eq_true, bne_iff_ne]
  refine ⟨⟨⟨?_, ?_⟩, ?_⟩, ?_, ?_⟩ <;> (rintro rfl; revert hc; decide)
theorem itoa_ok (n : Int) : ∀ c ∈ itoa n, okC c = true := by
  intro c hc
  unfold itoa at hc
  split at hc
  · rcases List.mem_cons.1 hc with rfl | hc
    · decide
    · exact (dig_ok (decDigits_dig _ c hc)).1
  · exact (dig_ok (decDigits_dig _ c hc)).1
theorem told_ok' (i : I6) (c : UInt8) (h : okC c = true) : ∀ x ∈ toldL i c, okC x = true := by
  intro x hx
  have hr : ∀ n : Int, x ∈ regL n → okC x = true := fun n hx => by
    rcases List.mem_cons.1 hx with rfl | hx
    · decide
    · exact itoa_ok n x hx
  unfold toldL at hx
  split at hx
  · exact hr _ hx
  split at hx
  · exact hr _ hx
  split at hx
  · exact hr _ hx
  split at hx
  · exact itoa_ok _ x hx
  split at hx
  · exact itoa_ok _ x hx
  split at hx
  · exact itoa_ok _ x hx
  split at hx
  · exact itoa_ok _ x hx
  · obtain rfl := List.mem_singleton.1 hx
    exact h
theorem oper_ok (k op : Nat) : ∀ c ∈ operK k op, okC c = true := by
  intro c hc
  have hall : ∀ l ∈ ([[100, 44, 32, 117], [100, 44, 32, 110], [100, 44, 32, 115, 44, 32, 110], [100, 44, 32, 110, 40, 115, 41], [115, 44, 32, 116, 44, 32, 110], [116, 44, 32, 110, 40, 115, 41], [100, 44, 32, 115, 44, 32, 116], [100, 44, 32, 99, 44, 32, 122], [100, 44, 32, 99, 44, 32, 115], []] : List Str), ∀ c ∈ l, okC c = true := by decide
  refine hall (operK k op) ?_ c hc
  unfold operK
  repeat' split
  all_goals simp
theorem names_ok : ∀ x ∈ nameL, (∀ c ∈ x, okC c = true ∧ lastC c = true) ∧ x ≠ [] ∧ x.head? ≠ some 46 := by decide +kernel
theorem text_okC (i : I6) (h : encOk i = true) : ∀ c ∈ textL i, okC c = true := by
  obtain ⟨h1, h2⟩ := encOk_valid h
  have hn := names_ok _ (nameS_mem (op_nat h1).1)
  intro c hc
  unfold textL textK at hc
  rcases List.mem_append.1 hc with hc | hc
  · exact (hn.1 c hc).1
  · rcases List.mem_append.1 hc with hc | hc
    · split at hc
      · cases hc
      · obtain rfl := List.mem_singleton.1 hc
        decide
    · unfold restL at hc
      obtain ⟨d, hd, hx⟩ := List.mem_flatMap.1 hc
      exact told_ok' i d (oper_ok _ _ d hd) c hx

theorem last_ok_append (a b : Str) (hb : b ≠ []) (h : ∀ c, b.getLast? = some c → lastC c = true) : ∀ c, (a ++ b).getLast? = some c → lastC c = true := by
  intro c hc
  rw [List.getLast?_append] at hc
  cases hb' : b.getLast? with
  | none => exact absurd (List.getLast?_eq_none_iff.1 hb') hb
  | some d =>
    rw [hb'] at hc
    rw [Option.some_or] at hc
    exact h c (hb'.trans hc)
theorem last_itoa (n : Int) : ∀ c, (itoa n).getLast? = some c → lastC c = true := by
  intro c hc
  have hd : ∀ u : Nat, ∀ c, (decDigits u).getLast? = some c → lastC c = true := fun u c hc => (dig_ok (decDigits_dig _ c (List.mem_of_getLast? hc))).2
  unfold itoa at hc
  split at hc
  · exact last_ok_append [45] _ (decDigits_ne _) (hd _) c hc
  · exact hd _ c hc
theorem last_reg (n : Int) : ∀ c, (regL n).getLast? = some c → lastC c = true := last_ok_append [120] (itoa n) (itoa_ne n) (last_itoa n)
theorem last_41 : ∀ c, ([41] : Str).getLast? = some c → lastC c = true := by
  intro c hc
  cases hc
  decide
theorem last_rest (k op : Nat) (hk : IsKind k) (i : I6) (hne : operK k op ≠ []) : restL k op i ≠ [] ∧ ∀ c, (restL k op i).getLast? = some c → lastC c = true := by
  have fin : ∀ (a b : Str), b ≠ [] → (∀ c, b.getLast? = some c → lastC c = true) → a ++ b ≠ [] ∧ ∀ c, (a ++ b).getLast? = some c → lastC c = true := fun a b hb h => ⟨by simp [hb], last_ok_append a b hb h⟩
  have two : ∀ (a b : Str), a ++ 44 :: 32 :: b = (a ++ [44, 32]) ++ b := by simp
  have three : ∀ (a b c : Str), a ++ 44 :: 32 :: (b ++ 44 :: 32 :: c) = (a ++ [44, 32] ++ b ++ [44, 32]) ++ c := by simp
  have br : ∀ (a b c : Str), a ++ 44 :: 32 :: (b ++ 40 :: (c ++ [41])) = (a ++ [44, 32] ++ b ++ [40] ++ c) ++ [41] := by simp
  rcases hk with rfl | rfl | rfl | rfl | rfl | rfl | rfl | rfl | rfl | rfl | rfl
  · rw [rest_U, two]; exact fin _ _ (itoa_ne _) (last_itoa _)
  · rw [rest_J, two]; exact fin _ _ (itoa_ne _) (last_itoa _)
  · rw [rest_I 73 _ (by decide), three]; exact fin _ _ (itoa_ne _) (last_itoa _)
  · rw [rest_L, br]; exact fin _ _ (by simp) last_41
  · rw [rest_I 70 _ (by decide), three]; exact fin _ _ (itoa_ne _) (last_itoa _)
  · by_cases h54 : 54 ≤ op
    · rw [rest_Ci _ h54, three]; exact fin _ _ (itoa_ne _) (last_itoa _)
    · rw [rest_C _ h54, three]; exact fin _ _ (reg_ne _) (last_reg _)
  · rw [rest_B, three]; exact fin _ _ (itoa_ne _) (last_itoa _)
  · rw [rest_S, br]; exact fin _ _ (by simp) last_41
  · rw [rest_I 72 _ (by decide), three]; exact fin _ _ (itoa_ne _) (last_itoa _)
  · rw [rest_R, three]; exact fin _ _ (reg_ne _) (last_reg _)
  · exact absurd rfl hne
theorem text_last (i : I6) (h : encOk i = true) : ∀ c, (textL i).getLast? = some c → lastC c = true := by
  obtain ⟨h1, h2⟩ := encOk_valid h
  have hn := names_ok _ (nameS_mem (op_nat h1).1)
  intro c hc
  unfold textL textK at hc
  by_cases ho : operK (kindN i.op.toNat) i.op.toNat = []
  · rw [if_pos ho, show restL (kindN i.op.toNat) i.op.toNat i = [] by unfold restL; rw [ho]; rfl, List.append_nil, List.append_nil] at hc
    exact (hn.1 c (List.mem_of_getLast? hc)).2
  · obtain ⟨e1, e2⟩ := last_rest (kindN i.op.toNat) i.op.toNat (kindN_is _ (op_nat h1).1) i ho
    rw [if_neg ho, ← List.append_assoc] at hc
    exact last_ok_append _ _ e1 e2 c hc
theorem text_head (i : I6) (h : encOk i = true) : ∃ c r, textL i = c :: r ∧ c ≠ 32 ∧ c ≠ 46 := by
  obtain ⟨h1, h2⟩ := encOk_valid h
  have hn := names_ok _ (nameS_mem (op_nat h1).1)
  unfold textL textK
  cases hs : nameS i.op.toNat with
  | nil => exact absurd hs hn.2.1
  | cons c r =>
    rw [hs] at hn
    refine ⟨c, _, rfl, ?_, ?_⟩
    · have := (hn.1 c (by simp)).2
      intro e; subst e; revert this; decide
    · intro e; subst e; exact hn.2.2 rfl
theorem tidy_text (i : I6) (h : encOk i = true) : Tidy (textL i) := by
  obtain ⟨c, r, e, hc, _⟩ := text_head i h
  refine ⟨by rw [e]; simp, fun x hx => ?_, ?_, fun hl => ?_⟩
  · have := text_okC i h x hx
    simp only [okC, Bool.and_eq_true, bne_iff_ne] at this
    exact ⟨this.1.1, this.1.2⟩
  · rw [e, List.head?_cons]
    intro h'; exact hc (Option.some.inj h')
  · have := text_last i h 32 hl
    revert this; decide
theorem text_nolabel (i : I6) (h : encOk i = true) : labelL (textL i) = [] := by
  unfold labelL
  rw [if_neg]
  rintro ⟨hs, _⟩
  unfold hasSuffix at hs
  obtain ⟨t, ht⟩ := List.isSuffixOf_iff_suffix.1 hs
  have := text_last i h 58 (by rw [← ht]; simp)
  revert this; decide
theorem text_nodot (i : I6) (h : encOk i = true) : hasPrefix (textL i) dotWord = false := by
  obtain ⟨c, r, e, _, hc⟩ := text_head i h
  rw [e]
  unfold hasPrefix dotWord
  simp only [List.isPrefixOf, Bool.and_eq_false_iff, beq_eq_false_iff_ne]
  exact .inl (fun e => hc e.symm)

theorem numbered_empty (t : Str) (a : Int) : numberedL t a [] = t := by
  unfold numberedL
  split
  · rfl
  · split
    · rfl
    · rfl
theorem word_text (i : I6) (h : encOk i = true) (a : Int) : wordV (textL i) a [] = encW i ∧ wordE (textL i) a [] = 0 := by
  unfold wordV wordE
  rw [if_neg (by rw [text_nodot i h]; simp), if_neg (by rw [text_nodot i h]; simp), numbered_empty]
  unfold parseN
  rw [parse_text i h]
  exact ⟨rfl, rfl⟩

theorem places_none : ∀ (ls : List Ln) (a : Nat) (m : Labs), (∀ l ∈ ls, labelL l.2 = []) → placesFrom ls a m = (none, m)
  | [], a, m, _ => rfl
  | l :: r, a, m, h => by
    rw [placesFrom, if_pos (h l (by simp))]
    exact places_none r _ m (fun x hx => h x (by simp [hx]))
theorem drop_none (ls : List Ln) (h : ∀ l ∈ ls, labelL l.2 = []) : dropL isLab ls = ls := by
  unfold dropL
  rw [List.filter_eq_self]
  intro l hl
  simp [isLab, h l hl]
theorem words_texts : ∀ (is : List I6) (ls : List Ln) (k : Nat) (acc : List Nat), (∀ i ∈ is, encOk i = true) → ls.map (·.2) = is.map textL → wordsL [] ls k acc = (0, 0, acc ++ is.map encW)
  | [], ls, k, acc, _, h => by
    cases ls with
    | nil => simp [wordsL]
    | cons l r => simp at h
  | i :: is, ls, k, acc, hi, h => by
    cases ls with
    | nil => simp at h
    | cons l r =>
      rw [List.map_cons, List.map_cons] at h
      injection h with h1 h2
      obtain ⟨e1, e2⟩ := word_text i (hi i (by simp)) ((k : Int) * 4)
      rw [wordsL, h1, e1, e2, if_pos rfl, words_texts is r (k + 1) _ (fun j hj => hi j (by simp [hj])) h2]
      simp
/-- A program whose lines say these instructions is their words. -/
theorem prog_texts (s : Str) (is : List I6) (hl : s.length ≤ 65536) (hi : ∀ i ∈ is, encOk i = true) (h : showsL s = is.map textL) : progL s = (0, 0, is.map encW) := by
  have hs := said_shows s
  rw [h] at hs
  have hn : ∀ l ∈ saidL s, labelL l.2 = [] := by
    intro l hm
    have : l.2 ∈ (saidL s).map (·.2) := List.mem_map.2 ⟨l, hm, rfl⟩
    rw [hs] at this
    obtain ⟨i, hm', e⟩ := List.mem_map.1 this
    rw [← e]
    exact text_nolabel i (hi i hm')
  unfold progL
  rw [if_pos hl, places_none _ _ _ hn, placedL, drop_none _ hn, words_texts is _ 0 [] hi hs]
  simp
end Go.Proofs.YtoekcfbjdcibpaaGreatDoor
namespace Go.Proofs.YtoekcfbjdcibpaaGreatDoor
open Go.RowKit Go.Lib
set_option linter.unusedVariables false

/-! A line's word. -/
def lineD (t : Str) (k : Nat) (m : Labs) : Option Nat :=
  if 6 < t.length ∧ t.take 6 = dotWord then (if parseE ⟨(t.drop 6).toArray⟩ = 0 then some (parseV ⟨(t.drop 6).toArray⟩) else none)
  else (repD t k m).bind fun t' => (dParse t').map encW
theorem dot_same (t : Str) (h : t.getLast? ≠ some 32) : (6 < t.length ∧ t.take 6 = dotWord) ↔ hasPrefix t dotWord = true := by
  unfold hasPrefix
  rw [List.isPrefixOf_iff_prefix]
  constructor
  · intro ⟨h1, h2⟩
    exact ⟨t.drop 6, by rw [← h2, List.take_append_drop]⟩
  · rintro ⟨r, rfl⟩
    refine ⟨?_, rfl⟩
    cases r with
    | nil => exact absurd rfl h
    | cons c r => simp [dotWord]
theorem line_same (t : Str) (ht : t.getLast? ≠ some 32) (k : Nat) (m : Labs) (hm : ∀ x p, lookL m x = some p → nameD x = true) :
    lineD t k m = if wordE t ((k : Int) * 4) m = 0 then some (wordV t ((k : Int) * 4) m) else none := by
  unfold lineD wordE wordV
  have hd := dot_same t ht
  by_cases h : hasPrefix t dotWord = true
  · rw [if_pos (hd.2 h), if_pos h, if_pos h]
  · rw [if_neg (fun e => h (hd.1 e)), if_neg h, if_neg h]
    have hr := rep_same t k m hm
    have e : ((repD t k m).bind fun t' => (dParse t').map encW) = Option.map encW ((repD t k m).bind dParse) := by
      cases repD t k m <;> rfl
    rw [e, hr]
    unfold parseN
    cases parseL (numberedL t ((k : Int) * 4) m) with
    | none => rfl
    | some i => rfl

/-! Labels and their places. -/
def toD (m : Labs) (y : Str) : Int := m.foldl (fun a p => if p.1 = y then (p.2 : Int) else a) (-1)
structure Dist (m : Labs) : Prop where
  no : ∀ a x b, m = a ++ x :: b → lookL a x.1 = none
  nm : ∀ p ∈ m, nameD p.1 = true
theorem dist_nil : Dist [] := ⟨fun a x b h => by simp at h, fun p h => by cases h⟩
theorem dist_snoc {m : Labs} (h : Dist m) (k : Str) (p : Nat) (hk : lookL m k = none) (hn : nameD k = true) : Dist (m ++ [(k, p)]) := by
  refine ⟨fun a x b e => ?_, fun q hq => ?_⟩
  · rcases List.eq_nil_or_concat b with rfl | ⟨b', y, rfl⟩
    · have := List.append_inj' e rfl
      obtain ⟨rfl, h2⟩ := this
      injection h2 with h2
      rw [← h2]; exact hk
    · rw [List.concat_eq_append, ← List.cons_append, ← List.append_assoc] at e
      have := List.append_inj' e rfl
      exact h.no a x b' this.1
  · rcases List.mem_append.1 hq with hq | hq
    · exact h.nm q hq
    · simp at hq; rw [hq]; exact hn
theorem look_mem {m : Labs} {x : Str} {p : Nat} (h : lookL m x = some p) : (x, p) ∈ m := by
  unfold lookL at h
  rw [Option.map_eq_some_iff] at h
  obtain ⟨q, h1, h2⟩ := h
  have h3 := List.find?_some h1
  have h4 := List.mem_of_find?_eq_some h1
  have : q = (x, p) := by cases q; simp at h3 h2; simp [h3, h2]
  rw [← this]; exact h4
theorem dist_names {m : Labs} (h : Dist m) : ∀ x p, lookL m x = some p → nameD x = true := fun x p hl => h.nm _ (look_mem hl)
theorem dist_left {a b : Labs} (h : Dist (a ++ b)) : Dist a :=
  ⟨fun c x d e => h.no c x (d ++ b) (by rw [e]; simp), fun p hp => h.nm p (List.mem_append_left _ hp)⟩
theorem toD_snoc (m : Labs) (k : Str) (p : Nat) (y : Str) : toD (m ++ [(k, p)]) y = if k = y then (p : Int) else toD m y := by
  unfold toD
  rw [List.foldl_append]
  rfl
theorem toD_look (m : Labs) (y : Str) (h : Dist m) : toD m y = match lookL m y with | some p => (p : Int) | none => -1 := by
  generalize hn : m.length = n
  induction n generalizing m with
  | zero => rw [List.length_eq_zero_iff.1 hn]; rfl
  | succ n ih =>
    rcases List.eq_nil_or_concat m with rfl | ⟨m, ⟨k, p⟩, rfl⟩
    · cases hn
    rw [List.concat_eq_append] at h hn ⊢
    have ih := ih m (dist_left h) (by simpa using hn)
    have hk : lookL m k = none := h.no m (k, p) [] rfl
    rw [toD_snoc]
    by_cases e : k = y
    · subst e
      rw [if_pos rfl, look_snoc_same m _ p hk]
    · rw [if_neg e, look_snoc_other m k y p (fun e' => e e'.symm), ih]
theorem places_dist (ls : List Ln) : ∀ (a : Nat) (m m' : Labs), placesFrom ls a m = (none, m') → Dist m → Dist m' := by
  induction ls with
  | nil =>
    intro a m m' h hm
    rw [placesFrom] at h
    cases h
    exact hm
  | cons l r ih =>
    intro a m m' h hm
    rw [placesFrom] at h
    by_cases h1 : labelL l.2 = []
    · rw [if_pos h1] at h
      exact ih _ _ _ h hm
    · rw [if_neg h1] at h
      cases h2 : lookL m (labelL l.2) with
      | some q => rw [h2] at h; cases h
      | none =>
        rw [h2] at h
        have hl : labD l.2 = true := by
          cases hb : labD l.2 with
          | true => rfl
          | false => exact absurd ((label_ne l.2).2 hb) h1
        refine ih _ _ _ h (dist_snoc hm _ _ h2 ?_)
        rw [label_is, if_pos hl]
        exact label_name hl
/-- The document's words of the lines. -/
def wordsD (m : Labs) : List Ln → List Nat → Told
  | [], acc => (0, 0, acc)
  | l :: r, acc => if labD l.2 = true then wordsD m r acc else match lineD l.2 acc.length m with | none => (l.1, 3, []) | some v => wordsD m r (acc ++ [v])
theorem words_same (m : Labs) (hm : Dist m) : ∀ (ls : List Ln) (acc : List Nat), (∀ l ∈ ls, l.2.getLast? ≠ some 32) → wordsD m ls acc = wordsL m (dropL isLab ls) acc.length acc
  | [], acc, _ => rfl
  | l :: r, acc, h => by
    have ih := fun acc => words_same m hm r acc (fun x hx => h x (List.mem_cons_of_mem _ hx))
    unfold wordsD dropL
    rw [List.filter_cons]
    cases hl : labD l.2 with
    | true =>
      have : isLab l = true := by
        unfold isLab
        have : labelL l.2 ≠ [] := fun e => by rw [label_ne, hl] at e; cases e
        cases hc : labelL l.2 with
        | nil => exact absurd hc this
        | cons _ _ => rfl
      rw [if_pos rfl, this, ih]
      rfl
    | false =>
      have : isLab l = false := by
        unfold isLab
        rw [(label_ne l.2).2 hl]
        rfl
      rw [this]
      simp only [Bool.not_false, if_true, Bool.false_eq_true, if_false]
      rw [line_same l.2 (h l List.mem_cons_self) acc.length m (dist_names hm), wordsL]
      by_cases he : wordE l.2 ((acc.length : Int) * 4) m = 0
      · rw [if_pos he, if_pos he]
        simp only
        rw [ih, List.length_append]
        rfl
      · rw [if_neg he, if_neg he]

/-! Lines. -/
def stripL (t : Str) : Str := t.dropWhile (· == 32)
theorem trim_right_cons (c : UInt8) (x : UInt8) (l : Str) : trimRightB (x :: l) c = if trimRightB l c = [] then (if (x == c) = true then [] else [x]) else x :: trimRightB l c := by
  unfold trimRightB
  rw [List.reverse_cons, List.dropWhile_append]
  by_cases h : (l.reverse.dropWhile (· == c)) = []
  · rw [h]
    simp only [List.isEmpty_nil, if_true, List.reverse_nil, if_true]
    by_cases hx : (x == c) = true
    · simp [hx]
    · simp [hx]
  · have h2 : (l.reverse.dropWhile (· == c)).isEmpty = false := by simpa using h
    have h3 : ¬ (l.reverse.dropWhile (· == c)).reverse = [] := by simpa using h
    rw [h2, if_neg h3]
    simp
theorem trim_swap (l : Str) (c : UInt8) : trimRightB (trimLeftB l c) c = trimB l c := by
  unfold trimB
  induction l with
  | nil => rfl
  | cons x l ih =>
    by_cases hx : (x == c) = true
    · have h1 : trimLeftB (x :: l) c = trimLeftB l c := by unfold trimLeftB; rw [List.dropWhile_cons, if_pos hx]
      rw [h1, ih, trim_right_cons]
      by_cases h : trimRightB l c = []
      · rw [if_pos h, if_pos hx, h]
      · rw [if_neg h]
        unfold trimLeftB
        rw [List.dropWhile_cons, if_pos hx]
    · have h1 : trimLeftB (x :: l) c = x :: l := by unfold trimLeftB; rw [List.dropWhile_cons, if_neg hx]
      rw [h1, trim_right_cons]
      by_cases h : trimRightB l c = []
      · rw [if_pos h, if_neg hx]
        unfold trimLeftB
        rw [List.dropWhile_cons, if_neg hx]
      · rw [if_neg h]
        unfold trimLeftB
        rw [List.dropWhile_cons, if_neg hx]
theorem trim_last (l : Str) (c : UInt8) : (trimRightB l c).getLast? ≠ some c := by
  unfold trimRightB
  rw [List.getLast?_reverse]
  intro h
  have := List.head?_dropWhile_not (fun x => x == c) l.reverse
  rw [h] at this
  simp at this
theorem shown_last (t : Str) : (shownL t).getLast? ≠ some 32 := by
  unfold shownL
  rw [← trim_swap]
  exact trim_last _ _
theorem said_last (s : Str) : ∀ l ∈ saidL s, l.2.getLast? ≠ some 32 := by
  intro l hl
  have h' : l ∈ rawFrom 0 (piecesL s) := by unfold saidL dropL at hl; exact (List.mem_filter.1 hl).1
  obtain ⟨t, ht, h1, h2⟩ := raw_mem _ _ _ h'
  rw [h1]
  exact shown_last t
/-- What is said behind a place where a line begins. -/
def restS (n : Nat) (s : Str) : List Ln := dropL isVoid (rawFrom n (piecesL s))
theorem rest_line (n : Nat) (a r : Str) (h : ∀ x ∈ a, x ≠ 10) : restS n (a ++ 10 :: r) = (if shownL a = [] then [] else [(n + 1, shownL a)]) ++ restS (n + 1) r := by
  unfold restS
  rw [pieces_line a r h, rawFrom]
  unfold dropL
  rw [List.filter_cons]
  have e : isVoid (n + 1, shownL a) = (shownL a).isEmpty := rfl
  rw [e]
  cases hs : shownL a with
  | nil => rfl
  | cons c q => rfl
theorem rest_end (n : Nat) (a : Str) (h : ∀ x ∈ a, x ≠ 10) : restS n a = if shownL a = [] then [] else [(n + 1, shownL a)] := by
  unfold restS
  rw [pieces_end a h, rawFrom]
  unfold dropL
  rw [List.filter_cons]
  have e : isVoid (n + 1, shownL a) = (shownL a).isEmpty := rfl
  rw [e]
  cases hs : shownL a with
  | nil => rfl
  | cons c q => rfl
/-- The document's program. -/
def progD (s : Str) : Told := if s.length ≤ 65536 then (match placesFrom (saidL s) 0 [] with | (some k, _) => (k, 6, []) | (none, m) => wordsD m (saidL s) []) else (0, 2, [])
theorem prog_same (s : Str) : progD s = progL s := by
  unfold progD progL
  by_cases h : s.length ≤ 65536
  · rw [if_pos h, if_pos h]
    cases hp : placesFrom (saidL s) 0 [] with
    | mk o m =>
      cases o with
      | some k => rfl
      | none =>
        show wordsD m (saidL s) [] = wordsL m (dropL isLab (saidL s)) 0 []
        exact words_same m (places_dist _ _ _ _ hp dist_nil) _ _ (said_last s)
  · rw [if_neg h, if_neg h]
end Go.Proofs.YtoekcfbjdcibpaaGreatDoor
