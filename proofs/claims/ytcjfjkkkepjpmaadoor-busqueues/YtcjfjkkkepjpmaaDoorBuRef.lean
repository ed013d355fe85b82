/-
  What the document's Base, by and Find of chapter 7 answer.
-/
import Derived.Test.YtcjfjkkkepjpmaaDoorBuFind
namespace Go.Proofs.YtcjfjkkkepjpmaaDoor
open Go.RowKit
set_option linter.unusedVariables false

def baseV (d : Int) (s : Nat) : Value := if 1 ≤ d ∧ d ≤ 7 then .tuple #[.int .u32 (firstN d.toNat : Nat), .int .u32 (sizeN d.toNat s : Nat)] else .tuple #[.int .u32 0, .int .u32 0]
theorem rbase1 (s : Nat) (w : World) : Calls Tryd.prog 13 #[.int .i64 1, .int .u32 s] w fun e w' => e = .returned (baseV 1 s) ∧ w' = w := by
  go_enter Tryd.func13, Tryd.ntmps13
  go_wp2
  go_ret2
  exact ⟨rfl, rfl⟩
theorem rbase2 (s : Nat) (w : World) : Calls Tryd.prog 13 #[.int .i64 2, .int .u32 s] w fun e w' => e = .returned (baseV 2 s) ∧ w' = w := by
  go_enter Tryd.func13, Tryd.ntmps13
  go_wp2
  go_ret2
  exact ⟨rfl, rfl⟩
theorem rbase3 (s : Nat) (w : World) : Calls Tryd.prog 13 #[.int .i64 3, .int .u32 s] w fun e w' => e = .returned (baseV 3 s) ∧ w' = w := by
  go_enter Tryd.func13, Tryd.ntmps13
  go_wp2
  go_ret2
  exact ⟨rfl, rfl⟩
theorem rbase4 (s : Nat) (w : World) : Calls Tryd.prog 13 #[.int .i64 4, .int .u32 s] w fun e w' => e = .returned (baseV 4 s) ∧ w' = w := by
  go_enter Tryd.func13, Tryd.ntmps13
  go_wp2
  go_ret2
  exact ⟨rfl, rfl⟩
theorem rbase5 (s : Nat) (w : World) : Calls Tryd.prog 13 #[.int .i64 5, .int .u32 s] w fun e w' => e = .returned (baseV 5 s) ∧ w' = w := by
  go_enter Tryd.func13, Tryd.ntmps13
  go_wp2
  go_ret2
  exact ⟨rfl, rfl⟩
theorem rbase6 (s : Nat) (w : World) : Calls Tryd.prog 13 #[.int .i64 6, .int .u32 s] w fun e w' => e = .returned (baseV 6 s) ∧ w' = w := by
  go_enter Tryd.func13, Tryd.ntmps13
  go_wp2
  go_ret2
  exact ⟨rfl, rfl⟩
theorem rbase7 (s : Nat) (hs : s < 4294967296) (w : World) : Calls Tryd.prog 13 #[.int .i64 7, .int .u32 s] w fun e w' => e = .returned (baseV 7 s) ∧ w' = w := by
  have hb : baseV 7 s = .tuple #[.int .u32 2147483648, .int .u32 ((if s ≤ 2147483648 then s else 2147483648 : Nat) : Nat)] := rfl
  rw [hb]
  clear hb
  by_cases h : s ≤ 2147483648
  · rw [if_pos h]
    have h' : ¬ 2147483648 < s := by omega
    go_enter Tryd.func13, Tryd.ntmps13
    go_wp2
    go_ret2
    exact ⟨rfl, rfl⟩
  · rw [if_neg h]
    have h' : 2147483648 < s := by omega
    go_enter Tryd.func13, Tryd.ntmps13
    go_wp2
    go_ret2
    exact ⟨rfl, rfl⟩
theorem rbase_no (d : Int) (h : ¬ (1 ≤ d ∧ d ≤ 7)) (s : Nat) (w : World) : Calls Tryd.prog 13 #[.int .i64 d, .int .u32 s] w fun e w' => e = .returned (baseV d s) ∧ w' = w := by
  unfold baseV
  rw [if_neg h]
  have e1 : (d == 1) = false := by simp; omega
  have e2 : (d == 2) = false := by simp; omega
  have e3 : (d == 3) = false := by simp; omega
  have e4 : (d == 4) = false := by simp; omega
  have e5 : (d == 5) = false := by simp; omega
  have e6 : (d == 6) = false := by simp; omega
  have e7 : (d == 7) = false := by simp; omega
  clear h
  go_enter Tryd.func13, Tryd.ntmps13
  go_wp2
  go_ret2
  exact ⟨rfl, rfl⟩
theorem rbase_any (d : Int) (s : Nat) (hs : s < 4294967296) (w : World) : Calls Tryd.prog 13 #[.int .i64 d, .int .u32 s] w fun e w' => e = .returned (baseV d s) ∧ w' = w := by
  by_cases h : 1 ≤ d ∧ d ≤ 7
  · obtain rfl | rfl | rfl | rfl | rfl | rfl | rfl : d = 1 ∨ d = 2 ∨ d = 3 ∨ d = 4 ∨ d = 5 ∨ d = 6 ∨ d = 7 := by omega
    · exact rbase1 s w
    · exact rbase2 s w
    · exact rbase3 s w
    · exact rbase4 s w
    · exact rbase5 s w
    · exact rbase6 s w
    · exact rbase7 s hs w
  · exact rbase_no d h s w

theorem by_any (d : Nat) (h0 : 1 ≤ d) (h8 : d < 8) (n : Int) (hn : isW n = true) (w : World) : Calls Tryd.prog 26 #[.int .i64 d, .int .i64 n] w fun e w' => e = .returned (.bool (takesW (widN d) n)) ∧ w' = w := by
  have hn' : n = 1 ∨ n = 2 ∨ n = 4 := of_decide_eq_true hn
  by_cases h7 : d = 7
  · subst h7
    have e : takesW (widN 7) n = true := by rw [show widN 7 = 7 from rfl]; unfold takesW; simp [hn']
    rw [e]
    clear hn hn' e
    go_enter Tryd.func26, Tryd.ntmps26
    go_wp2
    go_ret
    exact ⟨rfl, rfl⟩
  · by_cases h3 : d = 3
    · subst h3
      have e : takesW (widN 3) n = (n == 1) := by
        rw [show widN 3 = 1 from rfl]; unfold takesW; rcases hn' with rfl | rfl | rfl <;> decide
      rw [e]
      clear hn hn' e
      go_enter Tryd.func26, Tryd.ntmps26
      go_wp2
      go_ret
      exact ⟨rfl, rfl⟩
    · have hw : widN d = 4 := by
        have : ∀ d, d < 8 → 1 ≤ d → ¬ d = 7 → ¬ d = 3 → widN d = 4 := by decide
        exact this d h8 h0 h7 h3
      have e : takesW (widN d) n = (n == 4) := by
        rw [hw]; unfold takesW; rcases hn' with rfl | rfl | rfl <;> decide
      rw [e]
      have e7 : ((d : Int) == 7) = false := by simp; omega
      have e3 : ((d : Int) == 3) = false := by simp; omega
      clear hn hn' e hw
      go_enter Tryd.func26, Tryd.ntmps26
      go_wp2
      go_ret
      exact ⟨rfl, rfl⟩

def rfndV (f : Fnd) : Value := .tuple #[.int .i64 (f.1 : Nat), .int .u32 (f.2.1 : Nat), .int .i64 (f.2.2 : Nat)]

set_option maxHeartbeats 1000000 in
theorem rfind_loop (s a n : Nat) (hs : s < 4294967296) (ha : a < 4294967296) (hn : n = 1 ∨ n = 2 ∨ n = 4) (hal : a % n = 0) (w : World) :
    Calls Tryd.prog 9 #[.int .u32 s, .int .u32 a, .int .i64 n] w fun e w' => e = .returned (rfndV (findFrom s a n 7 1)) ∧ w' = w := by
  have hw : isW n = true := by unfold isW; simp; omega
  have hn0 : (n : Int) ≠ 0 := by omega
  have hn4 : n ≤ 4 := by omega
  have hal' : ((a : Int) % (n : Int) != 0) = false := by
    have : (a : Int) % (n : Int) = 0 := by omega
    simp [this]
  have HB : Hid (∀ d : Nat, 1 ≤ d → d < 8 → ∀ w, Calls Tryd.prog 13 #[.int .i64 d, .int .u32 s] w fun e w' => e = .returned (.tuple #[.int .u32 (firstN d : Nat), .int .u32 (sizeN d s : Nat)]) ∧ w' = w) := by
    refine hide (fun d h1 h8 w => ?_)
    have := rbase_any d s hs w
    unfold baseV at this
    rw [if_pos (by omega), Int.toNat_natCast] at this
    exact this
  have tn : ((n : Int) != 1 && (n : Int) != 2 && (n : Int) != 4) = false := by rcases hn with rfl | rfl | rfl <;> decide
  have HBy := hide (fun d h1 h8 => by_any d h1 h8 n hw)
  have hcase : (((n : Int) != 1) = false) ∨ (((n : Int) != 1) = true ∧ ((n : Int) != 2) = false) ∨ (((n : Int) != 1) = true ∧ ((n : Int) != 2) = true ∧ ((n : Int) != 4) = false) := by
    rcases hn with rfl | rfl | rfl <;> simp
  clear tn
  go_enter Tryd.func9, Tryd.ntmps9
  rcases hcase with q1 | ⟨q1, q2⟩ | ⟨q1, q2, q4⟩
  all_goals
    go_wp2
    clear hal' hn0
    go_loopw [9] (fun dv wr => FdRel s a n w dv w ∧ wr = w) (fun dv _ => 8 - (intOf dv).toNat)
    case atStart => exact ⟨⟨1, by omega, by omega, rfl, rfl, Below.refl _ _⟩, rfl⟩
    case round =>
      obtain ⟨⟨d, h1, h8, rfl, hF, hB⟩, rfl⟩ := hrel
      have HF := hide hF
      clear hF
      by_cases hd : d = 8
      · subst hd
        have t : ¬ ((8 : Nat) : Int) ≤ 7 := by omega
        go_wp2
        go_ret3
        exact ⟨by rw [HF.out]; rfl, rfl⟩
      · have t7 : (d : Int) ≤ 7 := by omega
        have hd8 : d < 8 := by omega
        have HA := hide (HB.out d h1 hd8)
        have HT := hide (HBy.out d h1 hd8)
        have hk : 8 - d = (8 - (d + 1)) + 1 := by omega
        rw [hk] at HF
        have hfl := first_lt hd8
        have hzl : sizeN d s < 4294967296 := size_lt hd8
        by_cases hin : insideN d s a n = true
        · have hin' : firstN d ≤ a ∧ a - firstN d + n ≤ sizeN d s := of_decide_eq_true hin
          have ea : ((a - firstN d : Nat) : Int) = (a : Int) - (firstN d : Nat) := by omega
          have tf : ¬ a < firstN d := by omega
          have tz : ¬ (firstN d : Int) + (sizeN d s : Nat) < (a : Int) + (n : Nat) := by omega
          by_cases ht : takesW (widN d) n = true
          · have HE := hide (HF.out.trans (findFrom_yes hin ht))
            rw [ht] at HT
            have EA := hide ea
            clear HF ht hin hin' hn hal hk ea HB HBy
            generalize firstN d = f at *
            generalize sizeN d s = z at *
            generalize widN d = wd at *
            go_wp2_with (first | (go_at_call 13; refine (HA.out _).mono ?_; rintro e w2 ⟨rfl, rfl⟩) | (go_at_call 26; refine (HT.out _).mono ?_; rintro e w4 ⟨rfl, rfl⟩))
            go_ret3
            refine ⟨?_, rfl⟩
            rw [HE.out]
            show _ = Ending.returned (.tuple #[.int .i64 (d : Nat), .int .u32 ((a - f : Nat) : Int), .int .i64 0])
            rw [EA.out]
            rfl
          · have HE := hide (HF.out.trans (findFrom_bad hin (by simpa using ht)))
            rw [show takesW (widN d) n = false by simpa using ht] at HT
            clear HF ht hin hin' hn hal hk ea HB HBy
            generalize firstN d = f at *
            generalize sizeN d s = z at *
            generalize widN d = wd at *
            go_wp2_with (first | (go_at_call 13; refine (HA.out _).mono ?_; rintro e w2 ⟨rfl, rfl⟩) | (go_at_call 26; refine (HT.out _).mono ?_; rintro e w4 ⟨rfl, rfl⟩))
            go_ret3
            exact ⟨by rw [HE.out]; rfl, rfl⟩
        · have hin' : ¬ (firstN d ≤ a ∧ a - firstN d + n ≤ sizeN d s) := fun h => hin (decide_eq_true h)
          have HE := hide (HF.out.trans (findFrom_no (k := 8 - (d + 1)) (by simpa using hin)))
          clear HF
          by_cases hf : firstN d ≤ a
          · have hz : ¬ (a - firstN d + n ≤ sizeN d s) := fun h => hin' ⟨hf, h⟩
            have tf : ¬ a < firstN d := by omega
            have tz : (firstN d : Int) + (sizeN d s : Nat) < (a : Int) + (n : Nat) := by omega
            clear hin hin' hz hn hal hk HB HBy
            generalize firstN d = f at *
            generalize sizeN d s = z at *
            generalize widN d = wd at *
            go_wp2_with (first | (go_at_call 13; refine (HA.out _).mono ?_; rintro e w2 ⟨rfl, rfl⟩))
            go_roundw
            case rel => exact ⟨⟨d + 1, by omega, by omega, by go_num, HE.out, hB⟩, trivial⟩
            case measure => simp [intOf]; omega
          · have tf : a < firstN d := by omega
            clear hin hin' hn hal hk hf HB HBy
            generalize firstN d = f at *
            generalize sizeN d s = z at *
            generalize widN d = wd at *
            go_wp2_with (first | (go_at_call 13; refine (HA.out _).mono ?_; rintro e w2 ⟨rfl, rfl⟩))
            go_roundw
            case rel => exact ⟨⟨d + 1, by omega, by omega, by go_num, HE.out, hB⟩, trivial⟩
            case measure => simp [intOf]; omega

set_option maxHeartbeats 400000 in
theorem rfind_any (s a : Nat) (n : Int) (hs : s < 4294967296) (ha : a < 4294967296) (w : World) :
    Calls Tryd.prog 9 #[.int .u32 s, .int .u32 a, .int .i64 n] w fun e w' => e = .returned (rfndV (findV s a n)) ∧ w' = w := by
  by_cases hw : isW n = true
  · have hn : n = 1 ∨ n = 2 ∨ n = 4 := of_decide_eq_true hw
    obtain ⟨k, rfl⟩ := Int.eq_ofNat_of_zero_le (show 0 ≤ n by omega)
    unfold findV
    rw [if_pos hw, Int.toNat_natCast]
    by_cases hal : a % k = 0
    · rw [if_pos hal]
      exact rfind_loop s a k hs ha (by omega) hal w
    · rw [if_neg hal]
      have hn0 : (k : Int) ≠ 0 := by omega
      have hn4 : k ≤ 4 := by omega
      have hal' : ((a : Int) % (k : Int) != 0) = true := by
        have : ¬ (a : Int) % (k : Int) = 0 := by omega
        simp [this]
      have hcase : (((k : Int) != 1) = false) ∨ (((k : Int) != 1) = true ∧ ((k : Int) != 2) = false) ∨ (((k : Int) != 1) = true ∧ ((k : Int) != 2) = true ∧ ((k : Int) != 4) = false) := by
        have : k = 1 ∨ k = 2 ∨ k = 4 := by omega
        rcases this with rfl | rfl | rfl <;> simp
      clear hw hn hal
      rcases hcase with q1 | ⟨q1, q2⟩ | ⟨q1, q2, q4⟩
      all_goals
        go_enter Tryd.func9, Tryd.ntmps9
        go_wp2
        go_ret3
        exact ⟨rfl, rfl⟩
  · have hn : ¬ (n = 1 ∨ n = 2 ∨ n = 4) := fun h => hw (decide_eq_true h)
    have q1 : (n != 1) = true := by simp; omega
    have q2 : (n != 2) = true := by simp; omega
    have q4 : (n != 4) = true := by simp; omega
    unfold findV
    rw [if_neg hw]
    clear hw hn
    go_enter Tryd.func9, Tryd.ntmps9
    go_wp2
    go_ret3
    exact ⟨rfl, rfl⟩
end Go.Proofs.YtcjfjkkkepjpmaaDoor
