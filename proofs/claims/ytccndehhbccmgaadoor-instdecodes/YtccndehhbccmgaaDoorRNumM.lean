/-
  The document's number is the program's.
-/
import Derived.Test.YtccndehhbccmgaaDoorRNumber
import Derived.Test.YtccndehhbccmgaaDoorInMath
namespace Go.Proofs.YtccndehhbccmgaaDoor
open Go.RowKit
set_option linter.unusedVariables false

def bitsL (v : Nat) (acc : Int) (ps : List Nat) : Int := ps.foldl (fun n p => 2 * n + ((bitN v (p : Nat) : Nat) : Int)) acc
theorem bitsL_append (v : Nat) (acc : Int) (a b : List Nat) : bitsL v acc (a ++ b) = bitsL v (bitsL v acc a) b := by simp [bitsL, List.foldl_append]
theorem bitsL_one (v : Nat) (acc : Int) (p : Nat) : bitsL v acc [p] = 2 * acc + ((bitN v (p : Nat) : Nat) : Int) := rfl

theorem bitsF_L (v p : Nat) (ps : List Nat) : ∀ k, k ≤ ps.length → bitsF v (p :: ps) (k + 1) = bitsL v (-((bitN v (p : Nat) : Nat) : Int)) (ps.take k)
  | 0, _ => rfl
  | k + 1, h => by
    have ih := bitsF_L v p ps k (by omega)
    have hk : k < ps.length := by omega
    rw [show bitsF v (p :: ps) (k + 1 + 1) = 2 * bitsF v (p :: ps) (k + 1) + ((bitN v ((p :: ps).getD (k + 1) 0 : Nat) : Nat) : Int) from rfl, ih, List.take_add_one, List.getElem?_eq_getElem hk, bitsL_append]
    have e : (p :: ps).getD (k + 1) 0 = ps[k] := by simp [List.getD_eq_getElem?_getD, List.getElem?_eq_getElem hk]
    rw [e]
    rfl
theorem bitsF_all (v p : Nat) (ps : List Nat) : bitsF v (p :: ps) (ps.length + 1) = bitsL v (-((bitN v (p : Nat) : Nat) : Int)) ps := by
  rw [bitsF_L v p ps ps.length (Nat.le_refl _), List.take_length]

theorem bit_at (v p : Nat) (h : p ≤ 31) : bitN v (p : Nat) = v / 2 ^ p % 2 := by
  unfold bitN; rw [if_pos (by omega)]; simp

theorem bitsL_down (v : Nat) (acc : Int) (hi : Nat) (h31 : hi ≤ 31) : ∀ n, n ≤ hi + 1 → bitsL v acc (downK hi n) = acc * (2 ^ n : Nat) + ((v / 2 ^ (hi + 1 - n) % 2 ^ n : Nat) : Int)
  | 0, _ => by simp [downK, bitsL, Nat.mod_one]
  | n + 1, h => by
    have ih := bitsL_down v acc hi h31 n (by omega)
    rw [downK_succ, bitsL_append, bitsL_one, ih, bit_at v (hi - n) (by omega)]
    have e1 : hi + 1 - n = (hi - n) + 1 := by omega
    have e2 : hi + 1 - (n + 1) = hi - n := by omega
    rw [e1, e2, Nat.pow_succ 2 (hi - n), ← Nat.div_div_eq_div_mul, Nat.pow_succ 2 n, Nat.mul_comm (2 ^ n) 2, Nat.mod_mul]
    generalize v / 2 ^ (hi - n) = q
    generalize 2 ^ n = P
    have e3 : (acc * ((2 * P : Nat) : Int)) = 2 * (acc * (P : Int)) := by rw [Int.natCast_mul, ← Int.mul_assoc, Int.mul_comm acc, Int.mul_assoc]; rfl
    rw [e3]
    omega

theorem b31 (v : Nat) (hv : v < 4294967296) : bitN v (31 : Nat) = v / 2147483648 := by rw [bit_at v 31 (by decide)]; omega

theorem rnum_U (v : Nat) (hv : v < 4294967296) : bitsF v (downK 31 20) 20 * 2 ^ 12 = numberN 85 v := by
  rw [number_U v hv, show downK 31 20 = 31 :: downK 30 19 by decide, show bitsF v (31 :: downK 30 19) 20 = _ from bitsF_all v 31 (downK 30 19), bitsL_down v _ 30 (by decide) 19 (by decide), b31 v hv]
  omega
theorem rnum_I (k : Nat) (hk : k = 73 ∨ k = 76 ∨ k = 70) (v : Nat) (hv : v < 4294967296) : bitsF v (downK 31 12) 12 = numberN k v := by
  rw [number_I k hk v hv, show downK 31 12 = 31 :: downK 30 11 by decide, show bitsF v (31 :: downK 30 11) 12 = _ from bitsF_all v 31 (downK 30 11), bitsL_down v _ 30 (by decide) 11 (by decide), b31 v hv]
  omega
theorem rnum_S (v : Nat) (hv : v < 4294967296) : bitsF v placesS 12 = numberN 83 v := by
  rw [number_S v hv, show placesS = 31 :: (downK 30 6 ++ downK 11 5) by decide, show bitsF v (31 :: (downK 30 6 ++ downK 11 5)) 12 = _ from bitsF_all v 31 (downK 30 6 ++ downK 11 5), bitsL_append, bitsL_down v _ 30 (by decide) 6 (by decide), bitsL_down v _ 11 (by decide) 5 (by decide), b31 v hv]
  omega
theorem rnum_B (v : Nat) (hv : v < 4294967296) : bitsF v placesB 12 * 2 ^ 1 = numberN 66 v := by
  rw [number_B v hv, show placesB = 31 :: ([7] ++ downK 30 6 ++ downK 11 4) by decide, show bitsF v (31 :: ([7] ++ downK 30 6 ++ downK 11 4)) 12 = _ from bitsF_all v 31 ([7] ++ downK 30 6 ++ downK 11 4), bitsL_append, bitsL_append, bitsL_one, bitsL_down v _ 30 (by decide) 6 (by decide), bitsL_down v _ 11 (by decide) 4 (by decide), b31 v hv, bit_at v 7 (by decide)]
  omega
theorem rnum_J (v : Nat) (hv : v < 4294967296) : bitsF v placesJ 20 * 2 ^ 1 = numberN 74 v := by
  rw [number_J v hv, show placesJ = 31 :: (downK 19 8 ++ [20] ++ downK 30 6 ++ downK 24 4) by decide, show bitsF v (31 :: (downK 19 8 ++ [20] ++ downK 30 6 ++ downK 24 4)) 20 = _ from bitsF_all v 31 (downK 19 8 ++ [20] ++ downK 30 6 ++ downK 24 4), bitsL_append, bitsL_append, bitsL_append, bitsL_one, bitsL_down v _ 19 (by decide) 8 (by decide), bitsL_down v _ 30 (by decide) 6 (by decide), bitsL_down v _ 24 (by decide) 4 (by decide), b31 v hv, bit_at v 20 (by decide)]
  omega
theorem rnum_0 (k : Nat) (hk : k = 67 ∨ k = 82 ∨ k = 78) (v : Nat) : numberN k v = 0 := by
  rcases hk with rfl | rfl | rfl <;> rfl

theorem rnumber_all (k : Nat) (hk : IsKind k) (v : Nat) (hv : v < 4294967296) (w : World) :
    Calls Tryd.prog 27 #[.int .u8 k, .int .u32 v] w fun e w' => e = .returned (.int .i64 (numberN k v)) ∧ Below w.heap.size w w' := by
  rcases hk with rfl | rfl | rfl | rfl | rfl | rfl | rfl | rfl | rfl | rfl | rfl
  · rw [← rnum_U v hv]; exact rnumber_U v hv w
  · rw [← rnum_J v hv]; exact rnumber_J v hv w
  · rw [← rnum_I 73 (by decide) v hv]; exact rnumber_I 73 (by decide) v hv w
  · rw [← rnum_I 76 (by decide) v hv]; exact rnumber_I 76 (by decide) v hv w
  · rw [← rnum_I 70 (by decide) v hv]; exact rnumber_I 70 (by decide) v hv w
  · rw [rnum_0 67 (by decide) v]; exact rnumber_0 67 (by decide) v w
  · rw [← rnum_B v hv]; exact rnumber_B v hv w
  · rw [← rnum_S v hv]; exact rnumber_S v hv w
  · rw [number_H v hv]; exact rnumber_H v hv w
  · rw [rnum_0 82 (by decide) v]; exact rnumber_0 82 (by decide) v w
  · rw [rnum_0 78 (by decide) v]; exact rnumber_0 78 (by decide) v w
end Go.Proofs.YtccndehhbccmgaaDoor
