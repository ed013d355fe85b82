/-
  What the document's shape answers.
-/
import Derived.Test.YtoekcfbjdcibpaaGreatDoorBase
import Derived.Test.YtoekcfbjdcibpaaGreatDoorAsNum
import Derived.WalkSmall
import Derived.BigQuiet
import Derived.Deep.QuietTactic
import Derived.Lib.IndexMore
import Derived.OwnWalk
namespace Go.Proofs.YtoekcfbjdcibpaaGreatDoor
open Go.RowKit Go.Lib
set_option linter.unusedVariables false

def numV (s : Str) : Value := .tuple #[.int .i64 ((numberL s).getD 0), .bool (numberL s).isSome]
/-- What is read of a number's digits, behind its minus. -/
def numT (m : Bool) (t : Str) : Option Int :=
  if t ≠ [] ∧ (∀ c ∈ t, isDig c = true) ∧ t.length ≤ 10 ∧ (t.length ≤ 1 ∨ t.head? ≠ some 48) ∧ ¬ (m = true ∧ valFrom 0 t = 0) ∧ valFrom 0 t ≤ 4294967296 then
    some (if m = true then -(valFrom 0 t : Int) else (valFrom 0 t : Int)) else none
theorem num_yes (t : Str) : numberL (45 :: t) = numT true t := by simp [numberL, numT]
theorem num_no (s : Str) (h : s.head? ≠ some 45) : numberL s = numT false s := by simp [numberL, numT, h]
theorem take_next (s : ByteArray) (k : Nat) (h : k < s.size) : s.data.toList.take (k + 1) = s.data.toList.take k ++ [s[k]] := by
  have h' : k < s.data.toList.length := by simpa using h
  rw [List.take_succ_eq_append_getElem h']
  rfl
theorem dig_sub {c : UInt8} (h : isDig c = true) : 48 ≤ c.toNat ∧ c.toNat ≤ 57 := by simpa [isDig] using h
theorem val_lt10 : ∀ (n : Nat) (l : Str), l.length = n → (∀ c ∈ l, isDig c = true) → valFrom 0 l < 10 ^ n
  | 0, l, hl, _ => by
    have : l = [] := List.length_eq_zero_iff.1 hl
    subst this
    decide
  | n + 1, l, hl, h => by
    have hne : l ≠ [] := fun e => by subst e; simp at hl
    obtain ⟨r, c, rfl⟩ : ∃ r c, l = r ++ [c] := ⟨l.dropLast, l.getLast hne, (List.dropLast_concat_getLast hne).symm⟩
    have ih := val_lt10 n r (by simpa using hl) (fun c hc => h c (by simp [hc]))
    have hc := dig_sub (h c (by simp))
    rw [valFrom_snoc, Nat.pow_succ]
    omega
theorem emptS (s : ByteArray) : s.toList.isEmpty = decide (s.size = 0) := by
  rw [ByteArray.toList_eq, Bool.eq_iff_iff]
  simp only [List.isEmpty_iff, decide_eq_true_eq]
  constructor
  · intro h
    have : s.data.toList.length = 0 := by rw [h]; rfl
    simpa using this
  · intro h
    apply List.eq_nil_of_length_eq_zero
    simpa using h
theorem head_at (s : ByteArray) (h : 0 < s.size) : s.data.toList.head? = some s[0] := by
  have h' : 0 < s.data.toList.length := by simpa using h
  rw [List.head?_eq_getElem?, List.getElem?_eq_getElem h']
  rfl
theorem ret_num {a b : Int} {p q : Bool} (h : a = b) (h' : p = q) : Ending.returned (.tuple #[.int .i64 a, .bool p]) = .returned (.tuple #[.int .i64 b, .bool q]) := by rw [h, h']
theorem i64_num (z : Int) (h0 : -9223372036854775808 ≤ z) (h1 : z ≤ 9223372036854775807) : wrap64 z = z := by unfold wrap64; omega
set_option maxHeartbeats 4000000 in
set_option maxRecDepth 100000 in
theorem rnum_plus (t : ByteArray) (hs : t.size ≤ 9223372036854775807) (hm : t.data.toList.head? ≠ some 45) (w : World) :
    Calls Tryz.prog 39 #[.string t] w fun e w' => e = .returned (numV t.data.toList) ∧ w' = w := by
  obtain ⟨z, hz0⟩ : ∃ z, numV t.data.toList = z := ⟨_, rfl⟩
  rw [hz0]
  have HZ : Hid (z = .tuple #[.int .i64 ((numT false t.data.toList).getD 0), .bool (numT false t.data.toList).isSome]) := hide (by rw [← hz0]; unfold numV; rw [num_no _ hm])
  clear hz0
  by_cases h0 : 0 < t.size
  · have hh := head_at t h0
    have e1 : (((t[0].toNat : Nat) : Int) == 45) = false := by
      rw [beq_eq_false_iff_ne]; intro e
      rw [hh] at hm
      exact hm (by rw [UInt8.toNat_inj.1 (show t[0].toNat = (45 : UInt8).toNat by (show t[0].toNat = 45; omega))])
    have e2 : (0 : Int) < (t.size : Int) := by omega
    clear hh hm
    go_enter Tryz.func39, Tryz.ntmps39
    go_wp2
    go_loop [5, 6] (fun nv iv => ∃ k : Nat, k ≤ t.size ∧ k ≤ 10 ∧ iv = .int .i64 k ∧ nv = .int .i64 (valFrom 0 (t.data.toList.take k) : Nat) ∧ ∀ c ∈ t.data.toList.take k, isDig c = true) (fun _ iv => t.size - (intOf iv).toNat)
    case atStart => exact ⟨0, by omega, by omega, rfl, rfl, fun c h => by simp at h⟩
    case round =>
      obtain ⟨k, hk, hk10, rfl, rfl, hdg⟩ := hrel
      by_cases hlt : k < t.size
      · have tk : ((k : Int) < (t.size : Int)) := by omega
        have htn := take_next t k hlt
        have hmem : t[k] ∈ t.data.toList := List.mem_of_mem_take (by rw [htn]; simp : t[k] ∈ t.data.toList.take (k + 1))
        by_cases hd : isDig t[k] = true ∧ k ≤ 9
        · obtain ⟨hd, hk9⟩ := hd
          have h48 := dig_sub hd
          have hvl := val_lt10 k _ (by simp; omega) hdg
          have hpw : 10 ^ k ≤ 10 ^ 9 := Nat.pow_le_pow_right (by decide) hk9
          have HV := hide (show valFrom 0 (t.data.toList.take (k + 1)) = 10 * valFrom 0 (t.data.toList.take k) + (t[k].toNat - 48) by rw [htn, valFrom_snoc])
          have HD := hide (show ∀ c ∈ t.data.toList.take (k + 1), isDig c = true by
            rw [htn]; intro c hc
            rcases List.mem_append.1 hc with h | h
            · exact hdg c h
            · rw [List.mem_singleton.1 h]; exact hd)
          have q1 : decide (((t[k].toNat : Nat) : Int) < 48) = false := by simp; omega
          have q2 : decide (((t[k].toNat : Nat) : Int) > 57) = false := by simp; omega
          have q2' : decide ((57 : Int) < ((t[k].toNat : Nat) : Int)) = false := by simp; omega
          have q3 : decide ((k : Int) > 9) = false := by simp; omega
          have q3' : decide ((9 : Int) < (k : Int)) = false := by simp; omega
          have q4 : (((t[k].toNat : Nat) : Int) - 48) % 256 = ((t[k].toNat - 48 : Nat) : Int) := by omega
          clear htn hmem hd hdg
          generalize valFrom 0 (t.data.toList.take k) = v at *
          go_wp2
          go_round
          case rel => exact ⟨k + 1, by omega, by omega, by go_num, by rw [HV.out]; congr 1; (try rw [i64_num]); omega, HD.out⟩
          case measure => simp [intOf]; omega
        · have HN : Hid (numT false t.data.toList = none) := hide (by
            unfold numT
            rw [if_neg]
            rintro ⟨_, h2, h3, _⟩
            exact hd ⟨h2 _ hmem, by simp at h3; omega⟩)
          by_cases h1 : t[k].toNat < 48
          · have q1 : ((t[k].toNat : Nat) : Int) < 48 := by omega
            clear htn hmem hd hdg
            go_wp2
            go_ret2
            exact ⟨by rw [HZ.out, HN.out]; rfl, rfl⟩
          · have q1 : decide (((t[k].toNat : Nat) : Int) < 48) = false := by simp; omega
            by_cases h2 : 57 < t[k].toNat
            · have q2 : (57 : Int) < ((t[k].toNat : Nat) : Int) := by omega
              clear htn hmem hd hdg
              go_wp2
              go_ret2
              exact ⟨by rw [HZ.out, HN.out]; rfl, rfl⟩
            · have q2 : decide ((57 : Int) < ((t[k].toNat : Nat) : Int)) = false := by simp; omega
              have q3 : (9 : Int) < (k : Int) := by
                have : ¬ k ≤ 9 := fun h => hd ⟨by simp [isDig]; omega, h⟩
                omega
              clear htn hmem hd hdg
              go_wp2
              go_ret2
              exact ⟨by rw [HZ.out, HN.out]; rfl, rfl⟩
      · obtain rfl : k = t.size := by omega
        have tk : decide ((t.size : Int) < (t.size : Int)) = false := by simp
        have hall : t.data.toList.take t.size = t.data.toList := List.take_of_length_le (by simp)
        rw [hall] at hdg ⊢
        have hvl := val_lt10 t.size t.data.toList (by simp) hdg
        have hpw : 10 ^ t.size ≤ 10 ^ 10 := Nat.pow_le_pow_right (by decide) hk10
        have hE := emptS t
        by_cases z0 : t.size = 0
        · have HN : Hid (numT false t.data.toList = none) := hide (by
            unfold numT
            rw [if_neg]
            rintro ⟨h1, _⟩
            exact h1 (List.length_eq_zero_iff.1 (by simpa using z0)))
          rw [decide_eq_true z0] at hE
          clear hdg hall hvl hpw z0
          generalize valFrom 0 t.data.toList = v at *
          go_wp2
          go_ret2
          exact ⟨by rw [HZ.out, HN.out]; rfl, rfl⟩
        · rw [decide_eq_false z0] at hE
          have hpn : 0 < t.size := by omega
          have hh := head_at t hpn
          have hpos : (0 : Int) < (t.size : Int) := by omega
          by_cases z1 : 1 < t.size ∧ t[0] = 48
          · have HN : Hid (numT false t.data.toList = none) := hide (by
              unfold numT
              rw [if_neg]
              rintro ⟨_, _, _, h4, _⟩
              rcases h4 with h4 | h4
              · simp at h4; omega
              · rw [hh, z1.2] at h4; exact h4 rfl)
            have u1 : (1 : Int) < (t.size : Int) := by omega
            have u2 : (((t[0].toNat : Nat) : Int) == 48) = true := by rw [z1.2]; rfl
            clear hdg hall hvl hpw hh z1
            generalize valFrom 0 t.data.toList = v at *
            go_wp2
            go_ret2
            exact ⟨by rw [HZ.out, HN.out]; rfl, rfl⟩
          · obtain ⟨bb, hbb⟩ : ∃ b, decide ((1 : Int) < (t.size : Int)) = b := ⟨_, rfl⟩
            have u2 : bb = true → (((t[0].toNat : Nat) : Int) == 48) = false := fun hb => by
              subst hb
              have h1 : 1 < t.size := by (have := of_decide_eq_true hbb; omega)
              rw [beq_eq_false_iff_ne]
              intro e
              exact z1 ⟨h1, UInt8.toNat_inj.1 (by (show t[0].toNat = 48; omega))⟩
            have h4 : t.data.toList.length ≤ 1 ∨ t.data.toList.head? ≠ some 48 := by
              by_cases h1 : 1 < t.size
              · right; rw [hh]; intro e; injection e with e; exact z1 ⟨h1, e⟩
              · left; simp; omega
            have hne : t.data.toList ≠ [] := fun e => z0 (by have := congrArg List.length e; simpa using this)
            have hlen : t.data.toList.length ≤ 10 := by simpa using hk10
            have HNN := hide (fun (p : ¬ (¬ (false = true ∧ valFrom 0 t.data.toList = 0) ∧ valFrom 0 t.data.toList ≤ 4294967296)) => show numT false t.data.toList = none by
              unfold numT
              rw [if_neg]
              rintro ⟨_, _, _, _, h5⟩
              exact p h5)
            have HNY := hide (fun (p : ¬ (false = true ∧ valFrom 0 t.data.toList = 0)) (p2 : valFrom 0 t.data.toList ≤ 4294967296) => show numT false t.data.toList = some (if false = true then -(valFrom 0 t.data.toList : Int) else (valFrom 0 t.data.toList : Int)) by
              unfold numT
              rw [if_pos ⟨hne, hdg, hlen, h4, p, p2⟩])
            clear hdg hall hh z1 h4 hne hlen
            generalize valFrom 0 t.data.toList = v at *
            cases bb
            · clear u2
              by_cases y1 : v ≤ 4294967296
              · have HN := hide (HNY.out (by simp) y1)
                have u4 : decide ((v : Int) > 4294967296) = false := by simp; omega
                have u4' : decide ((4294967296 : Int) < (v : Int)) = false := by simp; omega
                go_wp2
                go_ret2
                exact ⟨by rw [HZ.out, HN.out]; exact ret_num (by simp <;> omega) rfl, rfl⟩
              · have HN := hide (HNN.out (fun h => y1 h.2))
                have u4 : (4294967296 : Int) < (v : Int) := by omega
                go_wp2
                go_ret2
                exact ⟨by rw [HZ.out, HN.out]; rfl, rfl⟩
            · have u2b := u2 rfl
              clear u2
              by_cases y1 : v ≤ 4294967296
              · have HN := hide (HNY.out (by simp) y1)
                have u4 : decide ((v : Int) > 4294967296) = false := by simp; omega
                have u4' : decide ((4294967296 : Int) < (v : Int)) = false := by simp; omega
                go_wp2
                go_ret2
                exact ⟨by rw [HZ.out, HN.out]; exact ret_num (by simp <;> omega) rfl, rfl⟩
              · have HN := hide (HNN.out (fun h => y1 h.2))
                have u4 : (4294967296 : Int) < (v : Int) := by omega
                go_wp2
                go_ret2
                exact ⟨by rw [HZ.out, HN.out]; rfl, rfl⟩
  · have z0 : t.size = 0 := by omega
    have e2 : decide ((0 : Int) < (t.size : Int)) = false := decide_eq_false (by omega)
    have e3 : decide (0 < t.size) = false := decide_eq_false (by omega)
    have hE := emptS t
    rw [decide_eq_true z0] at hE
    have HN : Hid (numT false t.data.toList = none) := hide (by
      unfold numT
      rw [if_neg]
      rintro ⟨h1, _⟩
      exact h1 (List.length_eq_zero_iff.1 (by simpa using z0)))
    clear hm h0 z0
    go_enter Tryz.func39, Tryz.ntmps39
    go_wp2
    go_loop [5, 6] (fun nv iv => iv = .int .i64 0 ∧ nv = .int .i64 0) (fun _ _ => 0)
    case atStart => exact ⟨rfl, rfl⟩
    case round =>
      obtain ⟨rfl, rfl⟩ := hrel
      go_wp2
      go_ret2
      exact ⟨by rw [HZ.out, HN.out]; rfl, rfl⟩
theorem tail_at (s : ByteArray) : (s.extract 1 s.size).data.toList = s.data.toList.tail := by
  have : (s.extract 1 s.size).data = s.data.extract 1 s.size := ByteArray.data_extract
  rw [this, Array.toList_extract, List.extract_eq_take_drop]
  have hl : s.data.toList.length = s.size := by simp
  rw [← hl, List.drop_one, List.take_of_length_le (by simp)]
set_option maxHeartbeats 4000000 in
set_option maxRecDepth 100000 in
theorem rnum_minus (s : ByteArray) (hs : s.size ≤ 9223372036854775807) (hm : s.data.toList.head? = some 45) (w : World) :
    Calls Tryz.prog 39 #[.string s] w fun e w' => e = .returned (numV s.data.toList) ∧ w' = w := by
  obtain ⟨z, hz0⟩ : ∃ z, numV s.data.toList = z := ⟨_, rfl⟩
  rw [hz0]
  have hs1 : s.data.toList = 45 :: s.data.toList.tail := cons_of_head hm
  have h0 : 0 < s.size := by
    have := congrArg List.length hs1
    simp at this
    omega
  have ht := tail_at s
  have hsz : (s.extract 1 s.size).size = s.size - 1 := by simp
  have HZ : Hid (z = .tuple #[.int .i64 ((numT true (s.extract 1 s.size).data.toList).getD 0), .bool (numT true (s.extract 1 s.size).data.toList).isSome]) := hide (by rw [← hz0]; unfold numV; rw [hs1, num_yes, ht])
  clear hz0
  have hh := head_at s h0
  have e1 : (((s[0].toNat : Nat) : Int) == 45) = true := by
    rw [hh] at hm
    injection hm with hm
    rw [hm]; rfl
  have e2 : (0 : Int) < (s.size : Int) := by omega
  have e3 : (1 : Int) ≤ (s.size : Int) := by omega
  clear hh hm hs1 ht
  go_enter Tryz.func39, Tryz.ntmps39
  go_wp2
  generalize s.extract 1 s.size = t at *
  have hs' : t.size ≤ 9223372036854775807 := by omega
  clear hsz e1 e2 e3
  go_loop [5, 6] (fun nv iv => ∃ k : Nat, k ≤ t.size ∧ k ≤ 10 ∧ iv = .int .i64 k ∧ nv = .int .i64 (valFrom 0 (t.data.toList.take k) : Nat) ∧ ∀ c ∈ t.data.toList.take k, isDig c = true) (fun _ iv => t.size - (intOf iv).toNat)
  case atStart => exact ⟨0, by omega, by omega, rfl, rfl, fun c h => by simp at h⟩
  case round =>
    obtain ⟨k, hk, hk10, rfl, rfl, hdg⟩ := hrel
    by_cases hlt : k < t.size
    · have tk : ((k : Int) < (t.size : Int)) := by omega
      have htn := take_next t k hlt
      have hmem : t[k] ∈ t.data.toList := List.mem_of_mem_take (by rw [htn]; simp : t[k] ∈ t.data.toList.take (k + 1))
      by_cases hd : isDig t[k] = true ∧ k ≤ 9
      · obtain ⟨hd, hk9⟩ := hd
        have h48 := dig_sub hd
        have hvl := val_lt10 k _ (by simp; omega) hdg
        have hpw : 10 ^ k ≤ 10 ^ 9 := Nat.pow_le_pow_right (by decide) hk9
        have HV := hide (show valFrom 0 (t.data.toList.take (k + 1)) = 10 * valFrom 0 (t.data.toList.take k) + (t[k].toNat - 48) by rw [htn, valFrom_snoc])
        have HD := hide (show ∀ c ∈ t.data.toList.take (k + 1), isDig c = true by
          rw [htn]; intro c hc
          rcases List.mem_append.1 hc with h | h
          · exact hdg c h
          · rw [List.mem_singleton.1 h]; exact hd)
        have q1 : decide (((t[k].toNat : Nat) : Int) < 48) = false := by simp; omega
        have q2 : decide (((t[k].toNat : Nat) : Int) > 57) = false := by simp; omega
        have q2' : decide ((57 : Int) < ((t[k].toNat : Nat) : Int)) = false := by simp; omega
        have q3 : decide ((k : Int) > 9) = false := by simp; omega
        have q3' : decide ((9 : Int) < (k : Int)) = false := by simp; omega
        have q4 : (((t[k].toNat : Nat) : Int) - 48) % 256 = ((t[k].toNat - 48 : Nat) : Int) := by omega
        clear htn hmem hd hdg
        generalize valFrom 0 (t.data.toList.take k) = v at *
        go_wp2
        go_round
        case rel => exact ⟨k + 1, by omega, by omega, by go_num, by rw [HV.out]; congr 1; (try rw [i64_num]); omega, HD.out⟩
        case measure => simp [intOf]; omega
      · have HN : Hid (numT true t.data.toList = none) := hide (by
          unfold numT
          rw [if_neg]
          rintro ⟨_, h2, h3, _⟩
          exact hd ⟨h2 _ hmem, by simp at h3; omega⟩)
        by_cases h1 : t[k].toNat < 48
        · have q1 : ((t[k].toNat : Nat) : Int) < 48 := by omega
          clear htn hmem hd hdg
          go_wp2
          go_ret2
          exact ⟨by rw [HZ.out, HN.out]; rfl, rfl⟩
        · have q1 : decide (((t[k].toNat : Nat) : Int) < 48) = false := by simp; omega
          by_cases h2 : 57 < t[k].toNat
          · have q2 : (57 : Int) < ((t[k].toNat : Nat) : Int) := by omega
            clear htn hmem hd hdg
            go_wp2
            go_ret2
            exact ⟨by rw [HZ.out, HN.out]; rfl, rfl⟩
          · have q2 : decide ((57 : Int) < ((t[k].toNat : Nat) : Int)) = false := by simp; omega
            have q3 : (9 : Int) < (k : Int) := by
              have : ¬ k ≤ 9 := fun h => hd ⟨by simp [isDig]; omega, h⟩
              omega
            clear htn hmem hd hdg
            go_wp2
            go_ret2
            exact ⟨by rw [HZ.out, HN.out]; rfl, rfl⟩
    · obtain rfl : k = t.size := by omega
      have tk : decide ((t.size : Int) < (t.size : Int)) = false := by simp
      have hall : t.data.toList.take t.size = t.data.toList := List.take_of_length_le (by simp)
      rw [hall] at hdg ⊢
      have hvl := val_lt10 t.size t.data.toList (by simp) hdg
      have hpw : 10 ^ t.size ≤ 10 ^ 10 := Nat.pow_le_pow_right (by decide) hk10
      have hE := emptS t
      by_cases z0 : t.size = 0
      · have HN : Hid (numT true t.data.toList = none) := hide (by
          unfold numT
          rw [if_neg]
          rintro ⟨h1, _⟩
          exact h1 (List.length_eq_zero_iff.1 (by simpa using z0)))
        rw [decide_eq_true z0] at hE
        clear hdg hall hvl hpw z0
        generalize valFrom 0 t.data.toList = v at *
        go_wp2
        go_ret2
        exact ⟨by rw [HZ.out, HN.out]; rfl, rfl⟩
      · rw [decide_eq_false z0] at hE
        have hpn : 0 < t.size := by omega
        have hh := head_at t hpn
        have hpos : (0 : Int) < (t.size : Int) := by omega
        by_cases z1 : 1 < t.size ∧ t[0] = 48
        · have HN : Hid (numT true t.data.toList = none) := hide (by
            unfold numT
            rw [if_neg]
            rintro ⟨_, _, _, h4, _⟩
            rcases h4 with h4 | h4
            · simp at h4; omega
            · rw [hh, z1.2] at h4; exact h4 rfl)
          have u1 : (1 : Int) < (t.size : Int) := by omega
          have u2 : (((t[0].toNat : Nat) : Int) == 48) = true := by rw [z1.2]; rfl
          clear hdg hall hvl hpw hh z1
          generalize valFrom 0 t.data.toList = v at *
          go_wp2
          go_ret2
          exact ⟨by rw [HZ.out, HN.out]; rfl, rfl⟩
        · obtain ⟨bb, hbb⟩ : ∃ b, decide ((1 : Int) < (t.size : Int)) = b := ⟨_, rfl⟩
          have u2 : bb = true → (((t[0].toNat : Nat) : Int) == 48) = false := fun hb => by
            subst hb
            have h1 : 1 < t.size := by (have := of_decide_eq_true hbb; omega)
            rw [beq_eq_false_iff_ne]
            intro e
            exact z1 ⟨h1, UInt8.toNat_inj.1 (by (show t[0].toNat = 48; omega))⟩
          have h4 : t.data.toList.length ≤ 1 ∨ t.data.toList.head? ≠ some 48 := by
            by_cases h1 : 1 < t.size
            · right; rw [hh]; intro e; injection e with e; exact z1 ⟨h1, e⟩
            · left; simp; omega
          have hne : t.data.toList ≠ [] := fun e => z0 (by have := congrArg List.length e; simpa using this)
          have hlen : t.data.toList.length ≤ 10 := by simpa using hk10
          have HNN := hide (fun (p : ¬ (¬ (true = true ∧ valFrom 0 t.data.toList = 0) ∧ valFrom 0 t.data.toList ≤ 4294967296)) => show numT true t.data.toList = none by
            unfold numT
            rw [if_neg]
            rintro ⟨_, _, _, _, h5⟩
            exact p h5)
          have HNY := hide (fun (p : ¬ (true = true ∧ valFrom 0 t.data.toList = 0)) (p2 : valFrom 0 t.data.toList ≤ 4294967296) => show numT true t.data.toList = some (if true = true then -(valFrom 0 t.data.toList : Int) else (valFrom 0 t.data.toList : Int)) by
            unfold numT
            rw [if_pos ⟨hne, hdg, hlen, h4, p, p2⟩])
          clear hdg hall hh z1 h4 hne hlen
          generalize valFrom 0 t.data.toList = v at *
          cases bb
          · clear u2
            by_cases y0 : v = 0
            · have HN := hide (HNN.out (fun h => h.1 ⟨rfl, y0⟩))
              have u3 : ((v : Int) == 0) = true := by simp; omega
              go_wp2
              go_ret2
              exact ⟨by rw [HZ.out, HN.out]; rfl, rfl⟩
            have u3 : ((v : Int) == 0) = false := by simp; omega
            by_cases y1 : v ≤ 4294967296
            · have HN := hide (HNY.out (by simp; omega) y1)
              have u4 : decide ((v : Int) > 4294967296) = false := by simp; omega
              have u4' : decide ((4294967296 : Int) < (v : Int)) = false := by simp; omega
              go_wp2
              go_ret2
              exact ⟨by rw [HZ.out, HN.out]; exact ret_num (by simp <;> omega) rfl, rfl⟩
            · have HN := hide (HNN.out (fun h => y1 h.2))
              have u4 : (4294967296 : Int) < (v : Int) := by omega
              go_wp2
              go_ret2
              exact ⟨by rw [HZ.out, HN.out]; rfl, rfl⟩
          · have u2b := u2 rfl
            clear u2
            by_cases y0 : v = 0
            · have HN := hide (HNN.out (fun h => h.1 ⟨rfl, y0⟩))
              have u3 : ((v : Int) == 0) = true := by simp; omega
              go_wp2
              go_ret2
              exact ⟨by rw [HZ.out, HN.out]; rfl, rfl⟩
            have u3 : ((v : Int) == 0) = false := by simp; omega
            by_cases y1 : v ≤ 4294967296
            · have HN := hide (HNY.out (by simp; omega) y1)
              have u4 : decide ((v : Int) > 4294967296) = false := by simp; omega
              have u4' : decide ((4294967296 : Int) < (v : Int)) = false := by simp; omega
              go_wp2
              go_ret2
              exact ⟨by rw [HZ.out, HN.out]; exact ret_num (by simp <;> omega) rfl, rfl⟩
            · have HN := hide (HNN.out (fun h => y1 h.2))
              have u4 : (4294967296 : Int) < (v : Int) := by omega
              go_wp2
              go_ret2
              exact ⟨by rw [HZ.out, HN.out]; rfl, rfl⟩
theorem rnum_any (s : ByteArray) (hs : s.size ≤ 9223372036854775807) (w : World) :
    Calls Tryz.prog 39 #[.string s] w fun e w' => e = .returned (numV s.data.toList) ∧ w' = w := by
  by_cases hm : s.data.toList.head? = some 45
  · exact rnum_minus s hs hm w
  · exact rnum_plus s hs hm w
end Go.Proofs.YtoekcfbjdcibpaaGreatDoor
namespace Go.Proofs.YtoekcfbjdcibpaaGreatDoor
open Go.RowKit Go.Lib
set_option linter.unusedVariables false

theorem ext_list (s : ByteArray) (i j : Nat) : (s.extract i j).data.toList = (s.data.toList.drop i).take (j - i) := by
  have : (s.extract i j).data = s.data.extract i j := ByteArray.data_extract
  rw [this, Array.toList_extract, List.extract_eq_take_drop]
theorem pre_take (p l : Str) (h : p.length ≤ l.length) : (l.take p.length == p) = p.isPrefixOf l := by
  rw [Bool.eq_iff_iff, beq_iff_eq, List.isPrefixOf_iff_prefix]
  constructor
  · intro e; exact ⟨l.drop p.length, by rw [← e, List.length_take, Nat.min_eq_left h, List.take_append_drop]⟩
  · rintro ⟨t, rfl⟩; rw [List.take_left]
theorem occ_test (s b : ByteArray) (k : Nat) (h : k + b.size ≤ s.size) : ((s.extract k (k + b.size)).toList == b.toList) = occAt s.data.toList b.data.toList k := by
  have hl : b.data.toList.length = b.size := by simp
  rw [ByteArray.toList_eq, ByteArray.toList_eq, ext_list, show k + b.size - k = b.data.toList.length by omega]
  exact pre_take _ _ (by simp; omega)
theorem occ_far (s b : Str) (k : Nat) (h : s.length < k + b.length) (hb : b ≠ []) : occAt s b k = false := by
  cases ho : occAt s b k with
  | false => rfl
  | true =>
    unfold occAt at ho
    rw [List.isPrefixOf_iff_prefix] at ho
    obtain ⟨t, ht⟩ := ho
    have := congrArg List.length ht
    simp at this
    have : 0 < b.length := List.length_pos_iff.2 hb
    omega
/-- A text cut at another one, as the document's values. -/
structure CutIs (s b : ByteArray) (v : Value) : Prop where
  ex : ∃ x y : ByteArray, v = .tuple #[.string x, .string y, .bool (cut s.data.toList b.data.toList).2.2] ∧ x.data.toList = (cut s.data.toList b.data.toList).1 ∧ y.data.toList = (cut s.data.toList b.data.toList).2.1

set_option maxHeartbeats 2000000 in
set_option maxRecDepth 100000 in
theorem rcut_any (s b : ByteArray) (hs : s.size ≤ 4611686018427387904) (hb1 : 0 < b.size) (hb2 : b.size ≤ 2) (w : World) :
    Calls Tryz.prog 40 #[.string s, .string b] w fun e w' => (∃ v, e = .returned v ∧ CutIs s b v) ∧ ∃ n, w' = w.drewN n := by
  have hbne : b.data.toList ≠ [] := fun e => by (have h : b.data.toList.length = b.size := by simp); rw [e] at h; exact absurd h (by (show ¬ 0 = b.size); omega)
  have HBN := hide hbne
  clear hbne
  go_enter Tryz.func40, Tryz.ntmps40
  go_wp2
  go_loop [7] (fun iv => ∃ k : Nat, k ≤ s.size ∧ iv = .int .i64 k ∧ NoOcc s.data.toList b.data.toList k) (fun iv => s.size + 1 - (intOf iv).toNat)
  case atStart => exact ⟨0, by omega, rfl, NoOcc.zero _ _⟩
  case round =>
    obtain ⟨k, hk, rfl, hno⟩ := hrel
    have HN := hide hno
    clear hno
    by_cases hlt : k + b.size ≤ s.size
    · have t1 : ((k : Int) + (b.size : Int) ≤ (s.size : Int)) := by omega
      have t0 : (0 : Int) ≤ (k : Int) := by omega
      have hoc := occ_test s b k hlt
      have ek : ((k : Int) + (b.size : Int)).toNat = k + b.size := by omega
      cases ho : occAt s.data.toList b.data.toList k with
      | true =>
        rw [ho] at hoc
        have hi : index s.data.toList b.data.toList = (k : Int) := index_first (by simp; omega) ho HN.out
        have HC : Hid (cut s.data.toList b.data.toList = (s.data.toList.take k, s.data.toList.drop (k + b.data.toList.length), true)) := hide (by
          unfold cut; rw [hi, if_pos (by omega), Int.toNat_natCast])
        have H1 := hide (show (s.extract 0 k).data.toList = s.data.toList.take k by rw [ext_list]; simp)
        have H2 := hide (show (s.extract (k + b.size) s.size).data.toList = s.data.toList.drop (k + b.data.toList.length) by
          rw [ext_list, show b.data.toList.length = b.size by simp]
          exact List.take_of_length_le (by simp))
        clear hi ho
        go_wp2
        go_quiet (fail)
        go_wp2
        refine bodyPost_ret (results_tmp3 Tryz.results40 _ _ _) rfl ?_
        exact ⟨⟨_, rfl, ⟨_, _, by rw [HC.out]; rfl, by rw [HC.out]; exact H1.out, by rw [HC.out]; exact H2.out⟩⟩, _, rfl⟩
      | false =>
        rw [ho] at hoc
        have HN2 := hide (HN.out.succ ho)
        clear ho
        go_wp2
        go_round
        case rel => exact ⟨k + 1, by omega, by go_num, HN2.out⟩
        case measure => simp [intOf]; omega
    · have t1 : decide ((k : Int) + (b.size : Int) ≤ (s.size : Int)) = false := decide_eq_false (by omega)
      have HC : Hid (cut s.data.toList b.data.toList = (s.data.toList, [], false)) := hide (by
        have hi : index s.data.toList b.data.toList = -1 := index_none (fun j hj => by
          by_cases hjk : j < k
          · exact HN.out j hjk
          · exact occ_far _ _ j (by simp; omega) HBN.out)
        unfold cut; rw [hi, if_neg (by decide)])
      go_wp2
      refine bodyPost_ret (results_tmp3 Tryz.results40 _ _ _) rfl ?_
      exact ⟨⟨_, rfl, ⟨s, ByteArray.empty, by rw [HC.out]; rfl, by rw [HC.out], by rw [HC.out]; rfl⟩⟩, 0, rfl⟩
end Go.Proofs.YtoekcfbjdcibpaaGreatDoor
namespace Go.Proofs.YtoekcfbjdcibpaaGreatDoor
open Go.Lib
set_option linter.unusedVariables false

/-- A register of a text. -/
def regD (s : Str) : Option Int := if s.length < 2 ∨ s.head? ≠ some 120 then none else match numberL s.tail with | some n => if 0 ≤ n then some n else none | none => none
/-- The operands, between commas with a blank. -/
def partsF : Nat → Str → List Str
  | 0, s => [s]
  | f + 1, s => if (cut s [44, 32]).2.2 = true then (cut s [44, 32]).1 :: partsF f (cut s [44, 32]).2.1 else [(cut s [44, 32]).1]
def operD (s : Str) : List Str := if (cut s [32]).2.2 = true then partsF s.length (cut s [32]).2.1 else []
theorem cut_yes {s sep : Str} (h : (cut s sep).2.2 = true) : s = (cut s sep).1 ++ (sep ++ (cut s sep).2.1) := by
  unfold cut at h ⊢
  split at h
  · next h0 =>
    rw [if_pos h0]
    rcases index_spec s sep with ⟨h1, _⟩ | ⟨i, h1, h2, h3, _⟩
    · rw [h1] at h0; exact absurd h0 (by decide)
    · rw [h1, Int.toNat_natCast]
      show s = s.take i ++ (sep ++ s.drop (i + sep.length))
      have hp : sep.isPrefixOf (s.drop i) = true := by simpa [occAt] using h3
      rw [List.isPrefixOf_iff_prefix] at hp
      obtain ⟨t, ht⟩ := hp
      have : s.drop (i + sep.length) = t := by rw [← List.drop_drop, ← ht, List.drop_left]
      rw [this, ht, List.take_append_drop]
  · cases h
theorem cut_nay {s sep : Str} (h : (cut s sep).2.2 = false) : (cut s sep).1 = s ∧ (cut s sep).2.1 = [] := by
  unfold cut at h ⊢
  split at h
  · cases h
  · next h0 => rw [if_neg h0]; exact ⟨rfl, rfl⟩
theorem cut_less {s sep : Str} (hs : sep ≠ []) (h : (cut s sep).2.2 = true) : (cut s sep).2.1.length < s.length := by
  have := congrArg List.length (cut_yes h)
  simp at this
  have : 0 < sep.length := List.length_pos_iff.2 hs
  omega
theorem parts_fuel : ∀ (f g : Nat) (s : Str), s.length ≤ f → s.length ≤ g → partsF f s = partsF g s
  | 0, 0, s, _, _ => rfl
  | 0, g + 1, s, hf, _ => by
    have : s = [] := List.length_eq_zero_iff.1 (by omega)
    subst this
    rfl
  | f + 1, 0, s, _, hg => by
    have : s = [] := List.length_eq_zero_iff.1 (by omega)
    subst this
    rfl
  | f + 1, g + 1, s, hf, hg => by
    unfold partsF
    split
    · next h =>
      have := cut_less (by simp) h
      rw [parts_fuel f g _ (by omega) (by omega)]
    · rfl
theorem parts_step (s : Str) : partsF s.length s = if (cut s [44, 32]).2.2 = true then (cut s [44, 32]).1 :: partsF (cut s [44, 32]).2.1.length (cut s [44, 32]).2.1 else [(cut s [44, 32]).1] := by
  rw [parts_fuel s.length (s.length + 1) s (Nat.le_refl _) (by omega)]
  show (if _ then _ else _) = _
  split
  · next h =>
    have := cut_less (by simp) h
    rw [parts_fuel s.length _ _ (by omega) (Nat.le_refl _)]
  · rfl
theorem oper_is (s : Str) : operD s = if (cut s [32]).2.2 = true then partsF (cut s [32]).2.1.length (cut s [32]).2.1 else [] := by
  unfold operD
  split
  · next h =>
    have := cut_less (by simp) h
    exact parts_fuel _ _ _ (by omega) (Nat.le_refl _)
  · rfl
end Go.Proofs.YtoekcfbjdcibpaaGreatDoor
namespace Go.Proofs.YtoekcfbjdcibpaaGreatDoor
open Go.RowKit Go.Lib
set_option linter.unusedVariables false

structure KindOf (z : Int) (k : Int) : Prop where
  out : ∀ w, Calls Tryz.prog 29 #[.int .i64 z] w fun e w' => e = .returned (.int .u8 k) ∧ w' = w
structure ShapeOf (z : Int) (s : ByteArray) : Prop where
  out : ∀ w, Calls Tryz.prog 30 #[.int .i64 z] w fun e w' => e = .returned (.string s) ∧ w' = w

set_option maxHeartbeats 400000 in
theorem shape_85 (z : Int) (hk : KindOf z 85) : ShapeOf z (ByteArray.mk #[100, 110]) := by
  refine ⟨fun w => ?_⟩
  have HK := hide hk.out
  clear hk
  go_enter Tryz.func30, Tryz.ntmps30
  go_wp2_with (first | (go_at_call 29; refine (HK.out _).mono ?_; rintro e w1 ⟨rfl, rfl⟩))
  go_ret
  exact ⟨rfl, rfl⟩

set_option maxHeartbeats 400000 in
theorem shape_74 (z : Int) (hk : KindOf z 74) : ShapeOf z (ByteArray.mk #[100, 110]) := by
  refine ⟨fun w => ?_⟩
  have HK := hide hk.out
  clear hk
  go_enter Tryz.func30, Tryz.ntmps30
  go_wp2_with (first | (go_at_call 29; refine (HK.out _).mono ?_; rintro e w1 ⟨rfl, rfl⟩))
  go_ret
  exact ⟨rfl, rfl⟩

set_option maxHeartbeats 400000 in
theorem shape_73 (z : Int) (hk : KindOf z 73) : ShapeOf z (ByteArray.mk #[100, 115, 110]) := by
  refine ⟨fun w => ?_⟩
  have HK := hide hk.out
  clear hk
  go_enter Tryz.func30, Tryz.ntmps30
  go_wp2_with (first | (go_at_call 29; refine (HK.out _).mono ?_; rintro e w1 ⟨rfl, rfl⟩))
  go_ret
  exact ⟨rfl, rfl⟩

set_option maxHeartbeats 400000 in
theorem shape_70 (z : Int) (hk : KindOf z 70) : ShapeOf z (ByteArray.mk #[100, 115, 110]) := by
  refine ⟨fun w => ?_⟩
  have HK := hide hk.out
  clear hk
  go_enter Tryz.func30, Tryz.ntmps30
  go_wp2_with (first | (go_at_call 29; refine (HK.out _).mono ?_; rintro e w1 ⟨rfl, rfl⟩))
  go_ret
  exact ⟨rfl, rfl⟩

set_option maxHeartbeats 400000 in
theorem shape_72 (z : Int) (hk : KindOf z 72) : ShapeOf z (ByteArray.mk #[100, 115, 110]) := by
  refine ⟨fun w => ?_⟩
  have HK := hide hk.out
  clear hk
  go_enter Tryz.func30, Tryz.ntmps30
  go_wp2_with (first | (go_at_call 29; refine (HK.out _).mono ?_; rintro e w1 ⟨rfl, rfl⟩))
  go_ret
  exact ⟨rfl, rfl⟩

set_option maxHeartbeats 400000 in
theorem shape_76 (z : Int) (hk : KindOf z 76) : ShapeOf z (ByteArray.mk #[100, 109]) := by
  refine ⟨fun w => ?_⟩
  have HK := hide hk.out
  clear hk
  go_enter Tryz.func30, Tryz.ntmps30
  go_wp2_with (first | (go_at_call 29; refine (HK.out _).mono ?_; rintro e w1 ⟨rfl, rfl⟩))
  go_ret
  exact ⟨rfl, rfl⟩

set_option maxHeartbeats 400000 in
theorem shape_66 (z : Int) (hk : KindOf z 66) : ShapeOf z (ByteArray.mk #[115, 116, 110]) := by
  refine ⟨fun w => ?_⟩
  have HK := hide hk.out
  clear hk
  go_enter Tryz.func30, Tryz.ntmps30
  go_wp2_with (first | (go_at_call 29; refine (HK.out _).mono ?_; rintro e w1 ⟨rfl, rfl⟩))
  go_ret
  exact ⟨rfl, rfl⟩

set_option maxHeartbeats 400000 in
theorem shape_83 (z : Int) (hk : KindOf z 83) : ShapeOf z (ByteArray.mk #[116, 109]) := by
  refine ⟨fun w => ?_⟩
  have HK := hide hk.out
  clear hk
  go_enter Tryz.func30, Tryz.ntmps30
  go_wp2_with (first | (go_at_call 29; refine (HK.out _).mono ?_; rintro e w1 ⟨rfl, rfl⟩))
  go_ret
  exact ⟨rfl, rfl⟩

set_option maxHeartbeats 400000 in
theorem shape_82 (z : Int) (hk : KindOf z 82) : ShapeOf z (ByteArray.mk #[100, 115, 116]) := by
  refine ⟨fun w => ?_⟩
  have HK := hide hk.out
  clear hk
  go_enter Tryz.func30, Tryz.ntmps30
  go_wp2_with (first | (go_at_call 29; refine (HK.out _).mono ?_; rintro e w1 ⟨rfl, rfl⟩))
  go_ret
  exact ⟨rfl, rfl⟩

set_option maxHeartbeats 400000 in
theorem shape_67 (z : Int) (hk : KindOf z 67) : ShapeOf z (ByteArray.mk #[100, 99, 122]) := by
  refine ⟨fun w => ?_⟩
  have HK := hide hk.out
  clear hk
  go_enter Tryz.func30, Tryz.ntmps30
  go_wp2_with (first | (go_at_call 29; refine (HK.out _).mono ?_; rintro e w1 ⟨rfl, rfl⟩))
  go_ret
  exact ⟨rfl, rfl⟩

set_option maxHeartbeats 400000 in
theorem shape_78 (z : Int) (hk : KindOf z 78) : ShapeOf z (ByteArray.mk #[]) := by
  refine ⟨fun w => ?_⟩
  have HK := hide hk.out
  clear hk
  go_enter Tryz.func30, Tryz.ntmps30
  go_wp2_with (first | (go_at_call 29; refine (HK.out _).mono ?_; rintro e w1 ⟨rfl, rfl⟩))
  go_ret
  exact ⟨rfl, rfl⟩
end Go.Proofs.YtoekcfbjdcibpaaGreatDoor
