/-
  What the document's Hex answers of any number.
-/
import Derived.Test.YtcgnkkkeoeoenabDoorRefParse
namespace Go.Proofs.YtcgnkkkeoeoenabDoor
open Go.RowKit
set_option linter.unusedVariables false

/-- The last k digits of a number. -/
def hexTo (v : Nat) : Nat → List UInt8
  | 0 => []
  | k + 1 => digs.getD (v / 16 ^ k % 16) 0 :: hexTo v k

theorem hexTo_length (v k : Nat) : (hexTo v k).length = k := by
  induction k with
  | zero => rfl
  | succ k ih => simp [hexTo, ih]

theorem cut_one : ∀ a : Fin 16, dgs.extract a.val (a.val + 1) = ⟨#[digs.getD a.val 0]⟩ := by decide +kernel
theorem cut_add (a : Nat) (h : a < 16) (l : List UInt8) : dgs.extract a (a + 1) ++ (⟨l.toArray⟩ : ByteArray) = ⟨(digs.getD a 0 :: l).toArray⟩ := by
  have e := cut_one ⟨a, h⟩
  simp only at e
  rw [e]
  apply ByteArray.ext
  simp

set_option maxHeartbeats 2000000 in
set_option maxRecDepth 100000 in
theorem refhex_any (v : Nat) (hv : v < 4294967296) (w : World) :
    Calls Tryd.prog 7 #[.int .u32 v] w fun e w' => e = .returned (.string ⟨(hexTo v 8).toArray⟩) ∧ w' = w := by
  go_enter Tryd.func7, Tryd.ntmps7
  generalize hdg : ByteArray.mk #[48, 49, 50, 51, 52, 53, 54, 55, 56, 57, 97, 98, 99, 100, 101, 102] = dg
  have hdg' : dg = dgs := hdg.symm
  subst hdg'
  clear hdg
  go_wp2
  go_loop [0, 3, 4] (fun x sv i => ∃ k : Nat, k ≤ 8 ∧ i = .int .i64 k ∧ x = .int .u32 (v / 16 ^ k : Nat) ∧ sv = .string ⟨(hexTo v k).toArray⟩) (fun _ _ i => 8 - (intOf i).toNat)
  case atStart => exact ⟨0, Nat.zero_le _, rfl, by simp, rfl⟩
  case round =>
    obtain ⟨k, hk, rfl, rfl, rfl⟩ := hrel
    by_cases hlt : k < 8
    · have hq : v / 16 ^ k ≤ v := Nat.div_le_self _ _
      have HV := hide (show v / 16 ^ k / 16 = v / 16 ^ (k + 1) by rw [Nat.div_div_eq_div_mul, ← Nat.pow_succ])
      have HH := hide (show dgs.extract (v / 16 ^ k % 16) (v / 16 ^ k % 16 + 1) ++ (⟨(hexTo v k).toArray⟩ : ByteArray) = ⟨(hexTo v (k + 1)).toArray⟩ from cut_add _ (Nat.mod_lt _ (by decide)) _)
      have hds := dgs_size
      have ht : (ByteArray.mk (hexTo v k).toArray).size ≤ 8 := by show (hexTo v k).toArray.size ≤ 8; rw [List.size_toArray, hexTo_length]; exact hk
      generalize v / 16 ^ k = q at *
      generalize ByteArray.mk (hexTo v k).toArray = t at *
      have hm : q % 16 < 16 := Nat.mod_lt _ (by decide)
      go_wp2
      go_round
      case rel => exact ⟨k + 1, by omega, by go_num, by rw [← HV.out]; go_num, by rw [HH.out]⟩
      case measure => simp [intOf]; omega
    · obtain rfl : k = 8 := by omega
      go_wp2
      go_ret
      exact ⟨rfl, rfl⟩
end Go.Proofs.YtcgnkkkeoeoenabDoor
