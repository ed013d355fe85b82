/-
  What changing bits within 32 makes, plain.
-/
import Derived.Test.YtkahkkcbigifiaaDoorSmE
namespace Go.Proofs.YtkahkkcbigifiaaDoor
open Go.RowKit
set_option linter.unusedVariables false

/-- A bit turned round. -/
def flipL (x : List Nat) (k : Nat) : List Nat := x.set (k / 8) (x.getD (k / 8) 0 ^^^ 2 ^ (7 - k % 8))
def nearL (x : List Nat) (fr by' : Nat) : Nat → List Nat
  | 0 => x
  | i + 1 => if by' / 2 ^ i % 2 = 1 then flipL (nearL x fr by' i) (fr + i) else nearL x fr by' i
theorem flip_len (x : List Nat) (k : Nat) : (flipL x k).length = x.length := by simp [flipL]
theorem pow_small (k : Nat) : 2 ^ (7 - k % 8) < 256 := Nat.lt_of_le_of_lt (Nat.pow_le_pow_right (by decide) (show 7 - k % 8 ≤ 7 by omega)) (by decide)
theorem getD_lt {x : List Nat} (h : ∀ c ∈ x, c < 256) (j : Nat) : x.getD j 0 < 256 := by
  rw [List.getD_eq_getElem?_getD]
  cases hj : x[j]? with
  | none => decide
  | some c => exact h c (List.mem_of_getElem? hj)
theorem flip_val {x : List Nat} (h : ∀ c ∈ x, c < 256) (k : Nat) : x.getD (k / 8) 0 ^^^ 2 ^ (7 - k % 8) < 256 := Nat.xor_lt_two_pow (n := 8) (getD_lt h _) (pow_small k)
theorem flip_lt {x : List Nat} (h : ∀ c ∈ x, c < 256) (k : Nat) : ∀ c ∈ flipL x k, c < 256 := by
  intro c hc
  rcases List.mem_or_eq_of_mem_set hc with h1 | rfl
  · exact h c h1
  · exact flip_val h k
theorem flip_bit (x : List Nat) (k0 k : Nat) (hk : k ≠ k0) : bitL (flipL x k0) k = bitL x k := by
  unfold bitL flipL
  by_cases h8 : k / 8 = k0 / 8
  · by_cases hl : k0 / 8 < x.length
    · rw [h8, List.getD_eq_getElem?_getD, List.getElem?_set_self hl, Option.getD_some, Nat.testBit_xor, Nat.testBit_two_pow]
      rw [decide_eq_false (by omega), Bool.xor_false]
    · rw [List.set_eq_of_length_le (by omega)]
  · rw [List.getD_eq_getElem?_getD, List.getElem?_set_ne (fun e => h8 e.symm), ← List.getD_eq_getElem?_getD]
theorem near_len (x : List Nat) (fr by' : Nat) : ∀ i, (nearL x fr by' i).length = x.length
  | 0 => rfl
  | i + 1 => by
    rw [nearL]
    split
    · rw [flip_len, near_len x fr by' i]
    · exact near_len x fr by' i
theorem near_lt {x : List Nat} (h : ∀ c ∈ x, c < 256) (fr by' : Nat) : ∀ i, ∀ c ∈ nearL x fr by' i, c < 256
  | 0 => h
  | i + 1 => by
    rw [nearL]
    split
    · exact flip_lt (near_lt h fr by' i) _
    · exact near_lt h fr by' i
theorem near_bits (x : List Nat) (fr by' : Nat) : ∀ i k, bitL (nearL x fr by' i) k ≠ bitL x k → fr ≤ k ∧ k < fr + i
  | 0, k, h => absurd rfl h
  | i + 1, k, h => by
    rw [nearL] at h
    split at h
    · by_cases hk : k = fr + i
      · omega
      · rw [flip_bit _ _ _ hk] at h
        have := near_bits x fr by' i k h
        omega
    · have := near_bits x fr by' i k h
      omega
/-- What Cut says of it: whole where nothing is another one, and only there. -/
theorem near_cut (l : List Nat) (hl : ∀ c ∈ l, c < 256) (fr by' i : Nat) (hi : i ≤ 32) : decide (cutE (nearL (l ++ tail4 (sumL l)) fr by' i) = 0) = decide (nearL (l ++ tail4 (sumL l)) fr by' i = l ++ tail4 (sumL l)) := by
  have hx : ∀ c ∈ l ++ tail4 (sumL l), c < 256 := fun c hc => by
    rcases List.mem_append.1 hc with h | h
    · exact hl c h
    · exact tail4_lt (sumL_lt l) c h
  have h0 : sumL (l ++ tail4 (sumL l)) = 0 := (sum_ends l (sumL_lt l)).2 rfl
  have hlen : (l ++ tail4 (sumL l)).length = l.length + 4 := by rw [List.length_append]; rfl
  have hnl := near_len (l ++ tail4 (sumL l)) fr by' i
  have hns := near_seen (l ++ tail4 (sumL l)) (nearL (l ++ tail4 (sumL l)) fr by' i) hnl hx (near_lt hx fr by' i) fr (fun k _ hk => by have := near_bits _ _ _ _ _ hk; omega) h0
  have hok := ok_iff (nearL (l ++ tail4 (sumL l)) fr by' i) (near_lt hx fr by' i) (by omega)
  by_cases he : nearL (l ++ tail4 (sumL l)) fr by' i = l ++ tail4 (sumL l)
  · rw [decide_eq_true he, decide_eq_true]
    rw [cutE, if_neg (by omega), if_pos (hok.2 (hns.2 he))]
  · rw [decide_eq_false he, decide_eq_false]
    have : ¬ okL (nearL (l ++ tail4 (sumL l)) fr by' i) = true := fun h => he (hns.1 (hok.1 h))
    rw [cutE, if_neg (by omega), if_neg this]
    decide
variable {P : Program} {ops : Array Oper} {rest : List Oper} {dst : Option Tmp} {ty t t2 : TypeId} {pos : String} {after : Array Edge} {a : Act} {w : World} {Q : Exit → Act → World → Prop} {K : Act → World → Prop} {x y : Operand} {gd : Option (Nat × Bool)}
/-- One byte of a list of one's own. -/
theorem wp_set {B g cap : Nat} {e : TypeId} {l : List Nat} (ho : Own B e w (.slice (some ⟨g, 0, none⟩) l.length cap) l) (j z : Nat) (hj : j < l.length) (hz : z < 256) (hi : (P.info? t).map (·.size) = some 1) (hx : a.eval x = .pointer (some ⟨g, j, none⟩)) (hy : a.eval y = .int .u8 (z : Nat))
    (k : ∀ W, Own B e W (.slice (some ⟨g, 0, none⟩) l.length cap) (l.set j z) → Only g w W → K (a.put dst undef) W) : Oper.wp P ⟨dst, .store t x y, ty, pos, after, none⟩ a w K Q := by
  obtain ⟨hlt, h1, h2⟩ := ho
  rcases h2 with ⟨h2, _⟩ | ⟨g', cap', cur, h2, h3, h4, h5, h6, h7, h8⟩
  · cases h2
  injection h2 with e1 _ e3
  injection e1 with e1
  injection e1 with e1 _ _
  subst e1 e3
  have hr : RowAt w g cur e := h4
  have hth := hr.thereAt j 1 (by omega)
  have := run_storeCells_cells (P := P) g j [.int .u8 (z : Nat)] 0 w (fun i hi => by simpa using (hth i (by simpa using hi)).1) (fun i hi => by simpa using (hth i (by simpa using hi)).2) (fun u hu => by simp at hu; subst hu; rfl)
  have hrun : (storeVar t ⟨g, j, none⟩ (.int .u8 (z : Nat))).run P w = .ok () (w.setCells g j [.int .u8 (z : Nat)]) := by
    cases hq : P.info? t with
    | none => simp [hq] at hi
    | some i =>
      have hs : i.size = 1 := by simp [hq] at hi; omega
      simp only [Nat.add_zero] at this
      simp [storeVar, sizeOf, typeInfo, hq, Value.cells, hs, this]
  unfold Oper.wp execOp
  simp only [hx, hy, Instr.storeAt, Instr.sureAddr, Sem.run_bind, Sem.run_pure, Result.andThen_ok, hrun]
  refine k _ ⟨fun c hc => ?_, by rw [byV_len, List.length_set]; simp, .inr ⟨g, cap, _, by rw [List.length_set], h3, hr.put j _, by rw [List.length_set]; exact h5, h6, by simpa using h7, ?_⟩⟩ (only_setCells g j [.int .u8 (z : Nat)] w)
  · rcases List.mem_or_eq_of_mem_set hc with h | rfl
    · exact hlt c h
    · exact hz
  · rw [List.length_set, Array.toList_setIfInBounds, List.take_set, h8]
    simp [byV, List.map_set]
theorem Own.cell {B g cap n : Nat} {e : TypeId} {l : List Nat} {w : World} (ho : Own B e w (.slice (some ⟨g, 0, none⟩) n cap) l) (j : Nat) (hj : j < l.length) : w.cell? ⟨g, j, none⟩ = some (.int .u8 (l.getD j 0 : Nat)) := by
  obtain ⟨b, off, c, e1, _, hc⟩ := ho.rd.some1 (by omega)
  injection e1 with e1 _ _
  injection e1 with e1
  injection e1 with e1 e2 _
  subst e1 e2
  have := hc j hj
  rw [Nat.zero_add] at this
  rw [this, List.getD_eq_getElem?_getD, List.getElem?_eq_getElem hj]
  rfl
theorem Own.block {B : Nat} {e : TypeId} {l : List Nat} {w : World} {v : Value} (ho : Own B e w v l) (h0 : 0 < l.length) : ∃ g cap, v = .slice (some ⟨g, 0, none⟩) l.length cap ∧ B ≤ g ∧ l.length ≤ cap ∧ cap ≤ 9223372036854775807 := by
  rcases ho.row.2 with ⟨_, h2⟩ | ⟨g', cap', cur, h2, h3, h4, h5, h6, h7, h8⟩
  · omega
  · exact ⟨g', cap', h2, h3, h5, by simpa [maxLen] using h6⟩
end Go.Proofs.YtkahkkcbigifiaaDoor
