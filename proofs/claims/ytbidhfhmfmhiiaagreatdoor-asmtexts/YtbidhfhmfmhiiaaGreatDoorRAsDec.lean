/-
  What the document's Decimal answers.
-/
import Derived.Test.YtbidhfhmfmhiiaaGreatDoorBase
import Derived.Lib.ItoaNum
import Derived.Lib.ItoaLen
namespace Go.Proofs.YtbidhfhmfmhiiaaGreatDoor
open Go.RowKit Go.Lib
set_option linter.unusedVariables false

def ten : ByteArray := ByteArray.mk #[48, 49, 50, 51, 52, 53, 54, 55, 56, 57]
theorem ten_size : ten.size = 10 := rfl
theorem ten_one : ∀ a : Fin 10, ten.extract a.val (a.val + 1) = ⟨#[UInt8.ofNat (48 + a.val)]⟩ := by decide +kernel
theorem ten_add (a : Nat) (h : a < 10) (l : List UInt8) : ten.extract a (a + 1) ++ (⟨l.toArray⟩ : ByteArray) = ⟨(UInt8.ofNat (48 + a) :: l).toArray⟩ := by
  have e := ten_one ⟨a, h⟩
  simp only at e
  rw [e]
  apply ByteArray.ext
  simp
/-- The digits that are still to come: none of 0. -/
def dTo (n : Nat) : List UInt8 := if n = 0 then [] else decDigits n
theorem dec_step10 (n : Nat) : decDigits n = dTo (n / 10) ++ [UInt8.ofNat (48 + n % 10)] := by
  by_cases h : n < 10
  · rw [decDigits, dif_pos h, dTo, if_pos (by omega), Nat.mod_eq_of_lt h]; rfl
  · rw [decDigits, dif_neg h, dTo, if_neg (by omega)]
theorem dTo_step (n : Nat) (h : n ≠ 0) : dTo n = dTo (n / 10) ++ [UInt8.ofNat (48 + n % 10)] := by
  rw [← dec_step10, dTo, if_neg h]
def emptyOf : Value → Nat
  | .string b => if b.size = 0 then 1 else 0
  | _ => 0
theorem empty_cons (c : UInt8) (l : List UInt8) : emptyOf (.string ⟨(c :: l).toArray⟩) = 0 := by
  simp [emptyOf, ByteArray.size]
theorem empty_nil : emptyOf (.string ⟨([] : List UInt8).toArray⟩) = 1 := rfl
theorem dec_len (N : Nat) (h : N ≤ 9223372036854775807) : (decDigits N).length ≤ 21 := by
  have := itoa_length_le (N : Int) (by omega) (by omega)
  unfold itoa at this
  rwa [if_neg (by omega), Int.toNat_natCast] at this

set_option maxHeartbeats 1000000 in
set_option maxRecDepth 100000 in
theorem rdec_pos (N : Nat) (hN : N ≤ 9223372036854775807) (w : World) :
    Calls Tryz.prog 31 #[.int .i64 N] w fun e w' => e = .returned (.string ⟨(decDigits N).toArray⟩) ∧ w' = w := by
  have HL := hide (dec_len N hN)
  go_enter Tryz.func31, Tryz.ntmps31
  generalize hdg : ByteArray.mk #[48, 49, 50, 51, 52, 53, 54, 55, 56, 57] = dg
  have hdg' : dg = ten := hdg.symm
  subst hdg'
  clear hdg
  go_wp2
  go_loop [0, 3] (fun x sv => ∃ (n : Nat) (s : List UInt8), n ≤ N ∧ x = .int .i64 n ∧ sv = .string ⟨s.toArray⟩ ∧ ((s = [] ∧ n = N) ∨ (s ≠ [] ∧ decDigits N = dTo n ++ s))) (fun x sv => (intOf x).toNat + emptyOf sv)
  case atStart => exact ⟨N, [], Nat.le_refl _, rfl, rfl, Or.inl ⟨rfl, rfl⟩⟩
  case round =>
    obtain ⟨n, s, hn, rfl, rfl, hs⟩ := hrel
    have hds := ten_size
    have hm : n % 10 < 10 := Nat.mod_lt _ (by decide)
    have HH := hide (ten_add (n % 10) hm s)
    have hsl : s.length ≤ 21 := by
      rcases hs with ⟨rfl, _⟩ | ⟨_, he⟩
      · simp
      · have := HL.out; rw [he, List.length_append] at this; omega
    have ht : (ByteArray.mk s.toArray).size ≤ 21 := by show s.toArray.size ≤ 21; rw [List.size_toArray]; exact hsl
    by_cases hz : n = 0
    · subst hz
      rcases hs with ⟨rfl, rfl⟩ | ⟨hne, he⟩
      · go_wp2
        go_round
        case rel => exact ⟨0, [48], by omega, by go_num, by rfl, Or.inr ⟨by simp, (dec_step10 0).trans rfl⟩⟩
        case measure =>
          show 0 + emptyOf (.string (ten.extract 0 1 ++ ⟨#[]⟩)) < 0 + emptyOf (.string ⟨#[]⟩)
          decide +kernel
      · have hE : s.isEmpty = false := by cases s with
          | nil => exact absurd rfl hne
          | cons a b => rfl
        have HF := hide (show decDigits N = s by rw [he]; rfl)
        clear he
        go_wp2
        go_ret
        exact ⟨by rw [HF.out]; rfl, rfl⟩
    · have hpos : 0 < n := by omega
      have HS : Hid (decDigits N = dTo (n / 10) ++ (UInt8.ofNat (48 + n % 10) :: s)) := by
        show _ = _
        rcases hs with ⟨rfl, rfl⟩ | ⟨hne, he⟩
        · exact dec_step10 n
        · rw [he, dTo_step n hz]; simp
      have HM := hide (empty_cons (UInt8.ofNat (48 + n % 10)) s)
      clear hs
      generalize ByteArray.mk s.toArray = t at *
      go_wp2
      go_round
      case rel => exact ⟨n / 10, UInt8.ofNat (48 + n % 10) :: s, by omega, by go_num, by rw [← HH.out], Or.inr ⟨by simp, HS.out⟩⟩
      case measure =>
        show ((n : Int) / 10).toNat + emptyOf (.string (ten.extract (n % 10) (n % 10 + 1) ++ t)) < ((n : Int)).toNat + emptyOf (.string t)
        rw [HH.out, HM.out]
        omega
set_option maxHeartbeats 400000 in
theorem rdec_neg (N : Nat) (h0 : 1 ≤ N) (hN : N ≤ 9223372036854775807) (w : World) :
    Calls Tryz.prog 31 #[.int .i64 (-(N : Int))] w fun e w' => e = .returned (.string ⟨(45 :: decDigits N).toArray⟩) ∧ w' = w := by
  have HD := hide (rdec_pos N hN)
  have HB := hide (show (ByteArray.mk #[45] ++ ByteArray.mk (decDigits N).toArray) = ⟨(45 :: decDigits N).toArray⟩ by apply ByteArray.ext; simp)
  have hneg : -(N : Int) < 0 := by omega
  have hlen := dec_len N hN
  have hnn : -(-(N : Int)) = (N : Int) := by omega
  go_enter Tryz.func31, Tryz.ntmps31
  go_wp2_with (first | (go_at_call 31; refine (HD.out _).mono ?_; rintro e w1 ⟨rfl, rfl⟩))
  go_ret
  exact ⟨by rw [← HB.out]; rfl, rfl⟩

theorem rdec_any (z : Int) (h0 : -9223372036854775807 ≤ z) (h1 : z ≤ 9223372036854775807) (w : World) :
    Calls Tryz.prog 31 #[.int .i64 z] w fun e w' => e = .returned (.string ⟨(itoa z).toArray⟩) ∧ w' = w := by
  by_cases h : z < 0
  · obtain ⟨n, rfl⟩ : ∃ n : Nat, z = -(n : Int) := ⟨z.natAbs, by omega⟩
    have e : itoa (-(n : Int)) = 45 :: decDigits n := by unfold itoa; rw [if_pos h]; simp
    rw [e]
    exact rdec_neg n (by omega) (by omega) w
  · obtain ⟨n, rfl⟩ := Int.eq_ofNat_of_zero_le (show 0 ≤ z by omega)
    have e : itoa (n : Int) = decDigits n := by unfold itoa; rw [if_neg h]; simp
    rw [e]
    exact rdec_pos n (by omega) w
end Go.Proofs.YtbidhfhmfmhiiaaGreatDoor
