/-
  number: the lowest byte first.
-/
import Derived.Test.YtkahkkcbigifiaaDoorTvSize
namespace Go.Proofs.YtkahkkcbigifiaaDoor
open Go.RowKit
set_option linter.unusedVariables false
set_option linter.unusedSimpArgs false

theorem numL_snoc : ∀ (l : List Nat) (c : Nat), numL (l ++ [c]) = numL l + c * 256 ^ l.length
  | [], c => by simp [numL]
  | d :: l, c => by
    rw [List.cons_append, numL, numL_snoc l c, numL, List.length_cons, Nat.pow_succ, Nat.mul_add, Nat.add_assoc, Nat.mul_left_comm 256 c, Nat.mul_comm 256 (256 ^ l.length)]
theorem num_take (l : List Nat) (k : Nat) (hk : k < l.length) : numL (l.take (k + 1)) = numL (l.take k) + l[k] * 256 ^ k := by
  have h := numL_snoc (l.take k) l[k]
  rw [List.length_take, Nat.min_eq_left (by omega)] at h
  rw [← h, List.take_add_one, List.getElem?_eq_getElem hk]
  rfl
theorem num_64' {l : List Nat} (h : ∀ c ∈ l, c < 256) (h8 : l.length ≤ 8) : numL l < 18446744073709551616 := by
  have := numL_lt l h
  have hp : (256 : Nat) ^ l.length ≤ 256 ^ 8 := Nat.pow_le_pow_right (by decide) h8
  have h88 : (256 : Nat) ^ 8 = 18446744073709551616 := by decide
  omega
/-- What is put beside by or. -/
theorem or_byte (x c k : Nat) (hx : x < 256 ^ k) (hk : k < 8) (hc : c < 256) : x ||| (c * 2 ^ (8 * k)) % 18446744073709551616 = x + c * 256 ^ k := by
  have e : (256 : Nat) ^ k = 2 ^ (8 * k) := by rw [show (256 : Nat) = 2 ^ 8 from rfl, ← Nat.pow_mul]
  have hp : (256 : Nat) ^ (k + 1) ≤ 256 ^ 8 := Nat.pow_le_pow_right (by decide) hk
  have h88 : (256 : Nat) ^ 8 = 18446744073709551616 := by decide
  have hlt : c * 2 ^ (8 * k) < 18446744073709551616 := by
    rw [← e, ← h88]
    refine Nat.lt_of_lt_of_le ?_ hp
    rw [Nat.pow_succ, Nat.mul_comm]
    exact Nat.mul_lt_mul_of_pos_left hc (Nat.pow_pos (by decide))
  rw [Nat.mod_eq_of_lt hlt, e, Nat.or_comm, Nat.mul_comm c]
  rw [e] at hx
  rw [← Nat.two_pow_add_eq_or_of_lt hx c, Nat.add_comm]
theorem or_u64 (a b : Nat) (ha : a < 18446744073709551616) (hb : b < 18446744073709551616) : bits .or .u64 (a : Nat) (b : Nat) = ((a ||| b : Nat) : Int) := by
  have ha' : a % 2 ^ 64 = a := Nat.mod_eq_of_lt ha
  have hb' : b % 2 ^ 64 = b := Nat.mod_eq_of_lt hb
  have : a ||| b < 2 ^ 64 := Nat.or_lt_two_pow ha hb
  simp only [bits, show IntKind.u64.bits = 64 from rfl, BitVec.ofInt_natCast, BitVec.toNat_or, BitVec.toNat_ofNat, ha', hb', IntKind.wrap_u64]
  omega
theorem or_int (x c k : Nat) (hx : x < 256 ^ k) (hx64 : x < 18446744073709551616) (hk : k < 8) (hc : c < 256) : bits .or .u64 (x : Nat) (IntKind.u64.wrap ((c : Int) * 2 ^ (8 * k))) = ((x + c * 256 ^ k : Nat) : Int) := by
  have e : (c : Int) * 2 ^ (8 * k) = ((c * 2 ^ (8 * k) : Nat) : Int) := by push_cast; rfl
  have h := or_byte x c k hx hk hc
  rw [e, IntKind.wrap_u64]
  generalize c * 2 ^ (8 * k) = y at *
  have e2 : ((y : Nat) : Int) % 18446744073709551616 = ((y % 18446744073709551616 : Nat) : Int) := by omega
  rw [e2, or_u64 x _ hx64 (Nat.mod_lt _ (by decide)), h]
set_option maxRecDepth 100000 in
set_option maxHeartbeats 1000000 in
theorem number_any {B : Nat} {v : Value} {l : List Nat} (w : World) (h : Rd B w v l) (h8 : l.length ≤ 8) :
    Calls Tryd.prog 44 #[v] w fun e w' => e = .returned (.int .u64 (numL l : Nat)) ∧ w' = w := by
  by_cases h0 : 0 < l.length
  · obtain ⟨b, off, cap, rfl, hcap, hmax, _, HC, HL⟩ := h.all h0
    obtain ⟨n, hn⟩ : ∃ n, l.length = n := ⟨_, rfl⟩
    have HN := hide hn
    clear h
    rw [hn] at hcap h0 h8 ⊢
    clear hn
    go_enter Tryd.func44, Tryd.ntmps44
    go_wp2
    go_loop [3, 8] (fun x i => ∃ k : Nat, k ≤ n ∧ i = .int .i64 (k : Nat) ∧ x = .int .u64 (numL (l.take k) : Nat)) (fun _ i => n - (intOf i).toNat)
    case atStart => exact ⟨0, Nat.zero_le _, rfl, rfl⟩
    case round =>
      obtain ⟨k, hk, rfl, rfl⟩ := hrel
      by_cases hlt : k < n
      · have hj : k < l.length := by rw [HN.out]; exact hlt
        have hc := HC.out k hj
        have hcb := HL.out l[k] (List.getElem_mem hj)
        have HS := hide (num_take l k hj)
        have hx := numL_lt (l.take k) (fun c hc => HL.out c (List.mem_of_mem_take hc))
        rw [List.length_take, Nat.min_eq_left (by omega)] at hx
        have hx64 : numL (l.take k) < 18446744073709551616 := num_64' (fun c hc => HL.out c (List.mem_of_mem_take hc)) (by rw [List.length_take]; omega)
        have HO := hide (or_int (numL (l.take k)) l[k] k hx hx64 (by omega) hcb)
        clear hx
        generalize numL (l.take k) = x at *
        generalize l[k] = c at *
        have hk8 : k < 8 := by omega
        go_wp2
        go_round
        case rel => exact ⟨k + 1, by omega, by go_num, by rw [HS.out]; exact congrArg (Value.int .u64) HO.out⟩
        case measure => simp [intOf]; omega
      · obtain rfl : k = n := by omega
        have htk : l.take k = l := List.take_of_length_le (by have := HN.out; omega)
        rw [htk]
        go_wp2
        go_ret
        exact ⟨rfl, rfl⟩
  · obtain ⟨rfl, ad, cap, rfl, hmax⟩ := h.none h0
    go_enter Tryd.func44, Tryd.ntmps44
    go_wp2
    go_loop [3, 8] (fun x i => i = .int .i64 0 ∧ x = .int .u64 0) (fun _ i => 0)
    case atStart => exact ⟨rfl, rfl⟩
    case round =>
      obtain ⟨rfl, rfl⟩ := hrel
      go_wp2
      go_ret
      exact ⟨rfl, rfl⟩
end Go.Proofs.YtkahkkcbigifiaaDoor
