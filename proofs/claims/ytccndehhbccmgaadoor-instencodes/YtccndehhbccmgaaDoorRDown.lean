/-
  What the document's down answers: the places one after the other, in memory of the call's own; and its bits.
-/
import Derived.Test.YtccndehhbccmgaaDoorBit
import Derived.OwnWalk
import Derived.WalkSmall
import Derived.Maps.AppendAt
import Derived.Below
namespace Go.Proofs.YtccndehhbccmgaaDoor
open Go.RowKit
set_option linter.unusedVariables false

theorem infoInt : (Tryd.prog.info? 3).map (fun i => (i.zero, i.size, i.bytes)) = some (some (.int .i64 0), 1, 8) := by kernel_rfl

def intsOf (l : List Nat) : List Value := l.map fun (x : Nat) => Value.int .i64 (x : Int)
theorem intsOf_snoc (l : List Nat) (x : Nat) : intsOf (l ++ [x]) = intsOf l ++ [.int .i64 (x : Int)] := by simp [intsOf]
theorem intsOf_length (l : List Nat) : (intsOf l).length = l.length := by simp [intsOf]

theorem own_ge {w : World} {base : Nat} {e : TypeId} {size n : Nat} {v : Value} {xs : List Value} (h : w.ownsRow base e size v n xs) : ∀ k, v.ownBlock = some k → base ≤ k := by
  intro k hk
  rcases h.2 with ⟨rfl, _⟩ | ⟨g, cap, cur, rfl, hg, _⟩
  · simp [Value.ownBlock] at hk
  · simp [Value.ownBlock] at hk; omega

/-- The first places from one on downwards. -/
def downK (a k : Nat) : List Nat := (List.range k).map fun j => a - j
theorem downK_succ (a k : Nat) : downK a (k + 1) = downK a k ++ [a - k] := by simp [downK, List.range_succ]
theorem downK_length (a k : Nat) : (downK a k).length = k := by simp [downK]

/-- A slice of the call's own that holds these numbers. -/
def Own (base : Nat) (W : World) (v : Value) (l : List Nat) : Prop := W.ownsRow base 3 1 v l.length (intsOf l)

theorem Own.nil (base : Nat) (W : World) : Own base W (.slice none 0 0) [] := World.ownsRow_nil _ _ _ _

set_option maxHeartbeats 2000000 in
set_option maxRecDepth 100000 in
theorem down_any (base : Nat) (l : Value) (xs : List Nat) (a b : Nat) (hab : b ≤ a + 1) (ha : a ≤ 100) (hl : xs.length ≤ 100) (w : World) (hown : Own base w l xs) (hbase : base ≤ w.heap.size) :
    Calls Tryd.prog 31 #[l, .int .i64 a, .int .i64 b] w fun e w' => ∃ v, e = .returned v ∧ Own base w' v (xs ++ downK a (a + 1 - b)) ∧ Below base w w' := by
  obtain ⟨i0, hi, hz0, hz1, hz2⟩ := info_parts infoInt
  have HO := hide hown
  have HG := hide hbase
  clear hown
  go_enter Tryd.func31, Tryd.ntmps31
  go_wp2
  go_loopw [0, 7] (fun lv iv wr => ∃ k : Nat, k ≤ a + 1 - b ∧ iv = .int .i64 ((a : Int) - k) ∧ Own base wr lv (xs ++ downK a k) ∧ Below base w wr) (fun _ iv _ => (intOf iv + 1).toNat)
  case atStart => exact ⟨0, by omega, by simp, by simpa [downK] using HO.out, Below.refl _ _⟩
  case round =>
    obtain ⟨k, hk, rfl, hrow, hB⟩ := hrel
    by_cases hlt : k < a + 1 - b
    · obtain ⟨m, hm⟩ : ∃ m : Nat, (a : Int) - k = m := ⟨a - k, by omega⟩
      have HS : Hid (xs ++ downK a (k + 1) = (xs ++ downK a k) ++ [m]) := by show _ = _; rw [downK_succ, show a - k = m by omega, List.append_assoc]
      have hll : (xs ++ downK a k).length ≤ 300 := by rw [List.length_append, downK_length]; omega
      generalize xs ++ downK a k = ys at *
      have HGE := hide (own_ge hrow)
      have hsz : base ≤ wr.heap.size := Nat.le_trans HG.out hB.size
      unfold Own at hrow
      have hmb : (b : Int) ≤ m := by omega
      have HM := hide hm
      rw [hm]
      have ha2 : m ≤ 100 := by omega
      clear hm
      go_wp2_with (first | (at_builtin; refine wpList_append_own _ rfl _ _ 63 rfl base 3 i0 (.int .i64 0) 1 8 Tryd.underlying63 hi hz0 hz1 hz2 rfl (by decide) _ _ _ rfl (hrow.alloc _) ⟨_, 0, none⟩ 1 1 [.int .i64 (m : Int)] rfl rfl (cell_one_new _ _ _) (by simp [Value.oneCell']) (by unfold maxLen; omega) (by omega) (by simp; omega) ?_; intro v' w4 hown' hgrow' _))
      go_roundw
      case rel => exact ⟨k + 1, by omega, by have := HM.out; congr 1; omega, by unfold Own; rw [HS.out, intsOf_snoc, List.length_append]; exact hown', (hB.alloc hsz _).grown hgrow' (by simp; omega) HGE.out⟩
      case measure => simp [intOf]
    · obtain rfl : k = a + 1 - b := by omega
      have hlt2 : (a : Int) - ((a + 1 - b : Nat) : Int) < b := by omega
      generalize (a : Int) - ((a + 1 - b : Nat) : Int) = z at *
      go_wp2
      go_ret
      exact ⟨_, rfl, hrow, hB⟩

theorem Own.cells {base : Nat} {W : World} {v : Value} {l : List Nat} (h : Own base W v l) (h0 : l ≠ []) : ∃ g cap, v = .slice (some ⟨g, 0, none⟩) l.length cap ∧ l.length ≤ cap ∧ cap ≤ maxLen ∧ ∀ j, j < l.length → W.cell? ⟨g, j, none⟩ = some (.int .i64 (l.getD j 0 : Nat)) := by
  obtain ⟨_, hh⟩ := h
  rcases hh with ⟨rfl, hl⟩ | ⟨g, cap, cur, rfl, hg, hcur, hcap, hmax, hsz, htake⟩
  · exact absurd (List.eq_nil_of_length_eq_zero hl) h0
  · refine ⟨g, cap, rfl, hcap, hmax, ?_⟩
    intro j hj
    rw [cell_of_row _ _ _ _ _ (0, 0) hcur]
    have e : cur[j]? = (cur.toList.take (l.length * 1))[j]? := by
      rw [List.getElem?_take_of_lt (by omega)]; simp
    rw [e, htake, intsOf, List.getElem?_map, List.getElem?_eq_getElem hj, List.getD_eq_getElem?_getD, List.getElem?_eq_getElem hj]
    rfl

/-- The number of the bits at some places, the highest first and with its sign, as far as they have come. -/
def bitsF (v : Nat) (ps : List Nat) : Nat → Int
  | 0 => 0
  | 1 => -((bitN v (ps.getD 0 0 : Nat) : Nat) : Int)
  | k + 2 => 2 * bitsF v ps (k + 1) + ((bitN v (ps.getD (k + 1) 0 : Nat) : Nat) : Int)

theorem bitsF_bound (v : Nat) (ps : List Nat) : ∀ k, -(2 ^ k : Nat) ≤ bitsF v ps k ∧ bitsF v ps k < (2 ^ k : Nat)
  | 0 => by simp [bitsF]
  | 1 => by
    have := bitN_le v (ps.getD 0 0 : Nat)
    simp only [bitsF]; omega
  | k + 2 => by
    have h := bitsF_bound v ps (k + 1)
    have hb := bitN_le v (ps.getD (k + 1) 0 : Nat)
    have hp : 0 < 2 ^ (k + 1) := Nat.pow_pos (by decide)
    rw [Nat.pow_succ 2 (k + 1)]
    simp only [bitsF]
    omega
end Go.Proofs.YtccndehhbccmgaaDoor
