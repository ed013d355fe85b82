/-
  The runes of a text, and its pieces between marks: plain mathematics.
-/
import Derived.Test.YtoekcfbjdcibpaaGreatDoorAsSpec
import Derived.Lib.MapLaws
import Derived.Shelf.Unicode.DecodeSlow
namespace Go.Proofs.YtoekcfbjdcibpaaGreatDoor
open Go.Lib Go.RowKit
set_option linter.unusedVariables false

def markN (x : Nat) : Bool := x == 32 || x == 44 || x == 40 || x == 41

theorem high_mark {c : UInt8} (h : 128 ≤ c.toNat) : isMark c = false := by
  simp only [isMark, Bool.or_eq_false_iff, beq_eq_false_iff_ne]
  refine ⟨⟨⟨?_, ?_⟩, ?_⟩, ?_⟩ <;> (rintro rfl; revert h; decide)
theorem mark_eq (c : UInt8) : markN c.toNat = isMark c := by
  have : ∀ n : Fin 256, markN (UInt8.ofNat n.val).toNat = isMark (UInt8.ofNat n.val) := by decide +kernel
  have h := this ⟨c.toNat, UInt8.toNat_lt c⟩
  simpa using h
theorem markN_high {x : Nat} (h : 128 ≤ x) : markN x = false := by
  simp only [markN, Bool.or_eq_false_iff, beq_eq_false_iff_ne]
  omega

/-- One rune of a text: a mark of one byte, or bytes that are none. -/
theorem dec_step (l : Str) (hne : l ≠ []) : 1 ≤ (decodeL l).2 ∧ (decodeL l).2 ≤ l.length ∧ (decodeL l).1 ≤ 1114111 ∧
    ((markN (decodeL l).1 = true ∧ (decodeL l).2 = 1 ∧ ∃ c r, l = c :: r ∧ isMark c = true) ∨ (markN (decodeL l).1 = false ∧ ∀ c ∈ l.take (decodeL l).2, isMark c = false)) := by
  have hl : 1 ≤ l.length := by cases l with | nil => exact absurd rfl hne | cons _ _ => simp
  rw [decodeL_N]
  have b0 := UInt8.toNat_lt (l.getD 0 0)
  rcases decodeN_shape l.length (l.getD 0 0).toNat (l.getD 1 0).toNat (l.getD 2 0).toNat (l.getD 3 0).toNat with ⟨h0, e⟩ | ⟨h0, h1, h2, h3, e⟩ | ⟨h0, h1, h2, h3, h4, h5, e⟩ | ⟨h0, h1, h2, h3, h4, h5, h6, e⟩ | e
  · rw [e]
    refine ⟨Nat.le_refl _, hl, by simp only; omega, ?_⟩
    cases l with
    | nil => exact absurd rfl hne
    | cons c r =>
      simp only [List.getD_cons_zero] at h0 ⊢
      rw [mark_eq]
      cases hm : isMark c with
      | true => exact .inl ⟨rfl, trivial, c, r, rfl, hm⟩
      | false => exact .inr ⟨rfl, by simp [hm]⟩
  · rw [e]
    refine ⟨by simp only; omega, by simp only; omega, by simp only; omega, .inr ⟨markN_high (by simp only; omega), ?_⟩⟩
    simp only
    rw [takeB l h1]
    intro c hc
    simp only [List.mem_cons, List.not_mem_nil, or_false] at hc
    rcases hc with rfl | rfl <;> exact high_mark (by omega)
  · rw [e]
    refine ⟨by simp only; omega, by simp only; omega, by simp only; omega, .inr ⟨markN_high (by simp only; omega), ?_⟩⟩
    simp only
    rw [takeC l h1]
    intro c hc
    simp only [List.mem_cons, List.not_mem_nil, or_false] at hc
    rcases hc with rfl | rfl | rfl <;> exact high_mark (by omega)
  · rw [e]
    refine ⟨by simp only; omega, by simp only; omega, by simp only; omega, .inr ⟨markN_high (by simp only; omega), ?_⟩⟩
    simp only
    rw [takeD l h1]
    intro c hc
    simp only [List.mem_cons, List.not_mem_nil, or_false] at hc
    rcases hc with rfl | rfl | rfl | rfl <;> exact high_mark (by omega)
  · rw [e]
    refine ⟨Nat.le_refl _, hl, by decide, .inr ⟨rfl, ?_⟩⟩
    simp only
    rw [takeA l hl]
    intro c hc
    simp only [List.mem_cons, List.not_mem_nil, or_false] at hc
    subst hc
    by_cases h0 : (l.getD 0 0).toNat < 128
    · exfalso
      unfold decodeN at e
      rw [if_pos h0] at e
      injection e with e1 e2
      omega
    · exact high_mark (by omega)

theorem extract_str (s : ByteArray) (i : Nat) : s.extract i s.size = ⟨(s.data.toList.drop i).toArray⟩ := by
  apply ByteArray.ext
  have := extract_to_end s i
  rw [← this]
theorem extract_mid (s : ByteArray) (a b : Nat) : s.extract a b = ⟨((s.data.toList.drop a).take (b - a)).toArray⟩ := by
  apply ByteArray.ext
  rw [← extract_data]

theorem decodeGo_str (s : ByteArray) (i : Nat) (h : i < s.size) : decodeGo (s.extract i s.size) = decodeL (s.data.toList.drop i) := by
  have hs : (s.extract i s.size).size ≠ 0 := by simp; omega
  unfold decodeGo decodeL
  rw [if_neg hs, extract_str]
end Go.Proofs.YtoekcfbjdcibpaaGreatDoor
