/-
  BusApart, walked: each place means one device at most.
-/
import Derived.Test.YtcjfjkkkepjpmaaDoorBuWalk
namespace Go.Proofs.YtcjfjkkkepjpmaaDoor
open Go.RowKit
set_option linter.unusedVariables false

/-- Whether a place and so many bytes lie in a device, as the law asks. -/
def inL (s a M : Nat) (n4 : Bool) (d : Nat) : Bool := decide (1 ≤ d ∧ firstN d ≤ a ∧ a + M ≤ firstN d + sizeN d s) && n4
def cntN (f : Nat → Bool) : Nat → Nat
  | 0 => 0
  | d + 1 => cntN f d + (if f d = true then 1 else 0)
theorem cnt_le (f : Nat → Bool) : ∀ d, cntN f d ≤ d
  | 0 => Nat.le_refl _
  | d + 1 => by
    have := cnt_le f d
    rw [cntN]
    split <;> omega

def ownerN (a : Nat) : Nat := if a < 201326592 then 1 else if a < 268435456 then 2 else if a < 268500992 then 3 else if a < 268566528 then 4 else if a < 268632064 then 5 else if a < 2147483648 then 6 else 7
theorem inL_owner {s a M : Nat} {b : Bool} {d : Nat} (hd : d < 8) (hM : 1 ≤ M) (h : inL s a M b d = true) : d = ownerN a := by
  unfold inL at h
  rw [Bool.and_eq_true, decide_eq_true_eq] at h
  obtain ⟨⟨h0, h1, h2⟩, _⟩ := h
  have hz : d = 7 ∨ (d = 6 ∧ sizeN d s = 512) ∨ (d = 5 ∧ sizeN d s = 512) ∨ (d = 4 ∧ sizeN d s = 256) ∨ (d = 3 ∧ sizeN d s = 8) ∨ (d = 2 ∧ sizeN d s = 4194304) ∨ (d = 1 ∧ sizeN d s = 65536) := by
    obtain rfl | rfl | rfl | rfl | rfl | rfl | rfl : d = 1 ∨ d = 2 ∨ d = 3 ∨ d = 4 ∨ d = 5 ∨ d = 6 ∨ d = 7 := by omega
    all_goals simp [sizeN, sizeL]
  have hf : ∀ k, k < 8 → firstN k = firstL.getD k 0 := fun _ _ => rfl
  unfold ownerN
  rcases hz with rfl | ⟨rfl, e⟩ | ⟨rfl, e⟩ | ⟨rfl, e⟩ | ⟨rfl, e⟩ | ⟨rfl, e⟩ | ⟨rfl, e⟩
  · rw [show firstN 7 = 2147483648 from rfl] at h1 h2
    repeat rw [if_neg (by omega)]
  all_goals
    rw [e] at h2
    simp only [firstN, firstL, List.getD_eq_getElem?_getD, List.getElem?_cons_succ, List.getElem?_cons_zero, Option.getD_some] at h1 h2
    repeat (first | rw [if_pos (by omega)] | rw [if_neg (by omega)])

theorem cnt_zero (f : Nat → Bool) : ∀ d, (∀ j, j < d → f j = false) → cntN f d = 0
  | 0, _ => rfl
  | d + 1, h => by
    rw [cntN, cnt_zero f d (fun j hj => h j (by omega)), h d (by omega)]
    rfl
theorem cnt_one (f : Nat → Bool) (o : Nat) : ∀ d, (∀ j, j < d → f j = true → j = o) → cntN f d ≤ 1 ∧ (o < d → f o = true → cntN f d = 1)
  | 0, _ => ⟨Nat.zero_le _, fun h => absurd h (by omega)⟩
  | d + 1, h => by
    obtain ⟨h1, h2⟩ := cnt_one f o d (fun j hj => h j (by omega))
    rw [cntN]
    by_cases hf : f d = true
    · have hd := h d (by omega) hf
      subst hd
      rw [cnt_zero f d (fun j hj => by
        cases hj' : f j with
        | false => rfl
        | true => exact absurd (h j (by omega) hj') (by omega)), if_pos hf]
      exact ⟨by omega, fun _ _ => rfl⟩
    · rw [if_neg hf]
      refine ⟨h1, fun ho hfo => h2 ?_ hfo⟩
      rcases Nat.lt_or_ge o d with h' | h'
      · exact h'
      · exact absurd ((show o = d by omega) ▸ hfo) hf

/-- What Find answers without an error lies in that device. -/
theorem findFrom_in (s a n : Nat) : ∀ (k d d0 x0 : Nat), 1 ≤ d → findFrom s a n k d = (d0, x0, 0) → d ≤ d0 ∧ d0 < d + k ∧ insideN d0 s a n = true ∧ x0 = a - firstN d0
  | 0, d, d0, x0, _, h => by simp [findFrom] at h
  | k + 1, d, d0, x0, hd, h => by
    rw [findFrom] at h
    split at h
    · split at h
      · injection h with h1 h2
        injection h2 with h2 h3
        subst h1
        rename_i hi _
        exact ⟨Nat.le_refl _, by omega, hi, h2.symm⟩
      · injection h with h1 h2
        injection h2 with h2 h3
        exact absurd h3 (by decide)
    · obtain ⟨h1, h2, h3, h4⟩ := findFrom_in s a n k (d + 1) d0 x0 (by omega) h
      exact ⟨by omega, by omega, h3, h4⟩
theorem findV_in {s a : Nat} {n : Int} {d0 x0 : Nat} (h : findV s a n = (d0, x0, 0)) : isW n = true ∧ 1 ≤ d0 ∧ d0 < 8 ∧ insideN d0 s a n.toNat = true ∧ x0 = a - firstN d0 := by
  unfold findV at h
  split at h
  · rename_i hw
    split at h
    · obtain ⟨h1, h2, h3, h4⟩ := findFrom_in s a n.toNat 7 1 d0 x0 (by omega) h
      exact ⟨hw, h1, by omega, h3, h4⟩
    · injection h with h1 h2
      injection h2 with h2 h3
      exact absurd h3 (by decide)
  · injection h with h1 h2
    injection h2 with h2 h3
    exact absurd h3 (by decide)

/-- What the law's loop comes to. -/
theorem apart_facts {s a : Nat} {n : Int} {d0 x0 k M : Nat} (hM : (n < 1 ∧ M = 1) ∨ (1 ≤ n ∧ (M : Int) = n)) (h : findV s a n = (d0, x0, k)) :
    cntN (inL s a M (decide (n ≤ 4))) 8 ≤ 1 ∧ (k = 0 → cntN (inL s a M (decide (n ≤ 4))) 8 = 1) ∧ ∀ d, d < 8 → inL s a M (decide (n ≤ 4)) d = true → k = 0 → d = d0 ∧ a - firstN d = x0 := by
  have hM1 : 1 ≤ M := by omega
  obtain ⟨c1, c2⟩ := cnt_one (inL s a M (decide (n ≤ 4))) (ownerN a) 8 (fun j hj hi => inL_owner hj hM1 hi)
  have hk : k = 0 → d0 < 8 ∧ inL s a M (decide (n ≤ 4)) d0 = true ∧ x0 = a - firstN d0 := by
    intro hk
    subst hk
    obtain ⟨h1, h2, h3, h4, h5⟩ := findV_in h
    have hn : n = 1 ∨ n = 2 ∨ n = 4 := of_decide_eq_true h1
    have h4' : firstN d0 ≤ a ∧ a - firstN d0 + n.toNat ≤ sizeN d0 s := of_decide_eq_true h4
    refine ⟨h3, ?_, h5⟩
    unfold inL
    rw [Bool.and_eq_true, decide_eq_true_eq, decide_eq_true_eq]
    omega
  refine ⟨c1, fun h0 => ?_, fun d hd hi h0 => ?_⟩
  · obtain ⟨e1, e2, e3⟩ := hk h0
    have := inL_owner e1 hM1 e2
    exact c2 (this ▸ e1) (this ▸ e2)
  · obtain ⟨e1, e2, e3⟩ := hk h0
    have g1 := inL_owner e1 hM1 e2
    have g2 := inL_owner hd hM1 hi
    have : d = d0 := by omega
    subst this
    exact ⟨rfl, e3.symm⟩

def ApRel (f : Nat → Bool) (w : World) (mv dv : Value) (wr : World) : Prop := ∃ d : Nat, 1 ≤ d ∧ d ≤ 8 ∧ dv = .int .i64 (d : Nat) ∧ mv = .int .i64 (cntN f d : Nat) ∧ Below w.heap.size w wr

set_option maxHeartbeats 1000000 in
theorem apart_low_ok (s a : Nat) (n : Int) (hn : n < 1) (hs : s < 4294967296) (ha : a < 4294967296) (d0 x0 : Nat) (w : World) (hA : AreasAt w) (hH : HandleAt w)
    (h1 : cntN (inL s a 1 (decide (n ≤ 4))) 8 ≤ 1) (h2 : cntN (inL s a 1 (decide (n ≤ 4))) 8 = 1) (h3 : ∀ d, d < 8 → inL s a 1 (decide (n ≤ 4)) d = true → d = d0 ∧ a - firstN d = x0)
    (hF : Calls Tryd.prog 8 #[.int .u32 s, .int .u32 a, .int .i64 n] w fun e w' => e = .returned (.tuple #[.int .i64 (d0 : Nat), .int .u32 (x0 : Nat), .nilIface]) ∧ Below w.heap.size w w') :
    Calls Tryd.prog 6 #[.int .u32 s, .int .u32 a, .int .i64 n] w fun e w' => e = .returned (.bool true) ∧ Below w.heap.size w w' := by
  have HF := hide hF
  have HA := hide hA
  have HH := hide hH
  have HB1 : Hid (∀ d : Nat, 1 ≤ d → d < 8 → ∀ w, AreasAt w → Calls Tryd.prog 12 #[.int .i64 d, .int .u32 s] w fun e w' => e = .returned (.tuple #[.int .u32 (firstN d : Nat), .int .u32 (sizeN d s : Nat)]) ∧ Below w.heap.size w w') := by
    refine hide (fun d g1 g8 w hA => ?_)
    have := base_any d s hs w hA
    rw [if_pos (by omega), Int.toNat_natCast] at this
    exact this
  obtain ⟨f, hf⟩ : ∃ f, inL s a 1 (decide (n ≤ 4)) = f := ⟨_, rfl⟩
  rw [hf] at h1 h2 h3
  have HFd := hide hf
  have HC1 := hide h1
  have HC2 := hide h2
  have HC3 := hide h3
  clear hF hA hH hf h1 h2 h3
  go_enter Tryd.func6, Tryd.ntmps6
  go_wp2_with (go_at_call 8; refine HF.out.mono ?_; rintro e w1 ⟨rfl, hb1⟩; have B1 := hide hb1; clear hb1)
  go_loopw [10, 11] (ApRel f w) (fun _ dv _ => 8 - (intOf dv).toNat)
  case atStart => exact ⟨1, by omega, by omega, rfl, by rw [cntN, cntN, ← HFd.out]; rfl, B1.out⟩
  case round =>
    obtain ⟨d, g1, g8, rfl, rfl, hB⟩ := hrel
    have HB := hide hB
    clear hB
    by_cases hd : d = 8
    · subst hd
      have t : ¬ ((8 : Nat) : Int) ≤ 7 := by omega
      rw [HC2.out]
      clear HC1 HC2 HC3
      go_wp2_with (go_at_call 11; refine (sure_any _ (HA.out.bl HB.out) (HH.out.below HB.out)).mono ?_; rintro e w4 ⟨rfl, hb4⟩; have B4 := hide (below_bl rfl HB.out hb4); clear hb4)
      go_ret
      exact ⟨rfl, B4.out⟩
    · have t7 : (d : Int) ≤ 7 := by omega
      have hd8 : d < 8 := by omega
      have HBd := hide (HB1.out d g1 hd8 _ (HA.out.bl HB.out))
      have hfl := first_lt hd8
      have hzl : sizeN d s < 4294967296 := size_lt hd8
      have hcl := cnt_le f d
      clear HB1
      by_cases hi : f d = true
      · have hi2 : inL s a 1 (decide (n ≤ 4)) d = true := by rw [HFd.out]; exact hi
        have HS : Hid (cntN f (d + 1) = cntN f d + 1) := by rw [cntN, if_pos hi]; exact hide rfl
        obtain ⟨q1, q2⟩ := HC3.out d hd8 hi
        subst q1
        have e1 : ((d : Int) != (d : Int)) = false := by simp
        unfold inL at hi2
        rw [Bool.and_eq_true, decide_eq_true_eq, decide_eq_true_eq] at hi2
        obtain ⟨⟨_, z1, z2⟩, z4⟩ := hi2
        have y1 : firstN d ≤ a := z1
        have y2 : (a : Int) + 1 ≤ (firstN d : Nat) + (sizeN d s : Nat) := by omega
        have y3 : (a : Int) - (firstN d : Nat) = (x0 : Nat) := by omega
        have y4 : ((x0 : Int) != (x0 : Int)) = false := by simp
        clear HFd HC1 HC2 HC3 q2 z1 z2 hi HF
        generalize firstN d = fi at *
        generalize sizeN d s = zi at *
        generalize cntN f d = c at *
        go_wp2_with (first | (go_at_call 12; refine HBd.out.mono ?_; rintro e w2 ⟨rfl, hb2⟩; have B2 := hide (below_bl rfl HB.out hb2); clear hb2))
        go_roundw
        case rel => exact ⟨d + 1, by omega, by omega, by go_num, by rw [HS.out]; go_num, B2.out⟩
        case measure => simp [intOf]; omega
      · have HS : Hid (cntN f (d + 1) = cntN f d) := by rw [cntN, if_neg hi]; exact hide rfl
        have hi2 : inL s a 1 (decide (n ≤ 4)) d = false := by rw [HFd.out]; simpa using hi
        unfold inL at hi2
        rw [Bool.and_eq_false_iff, decide_eq_false_iff_not, decide_eq_false_iff_not] at hi2
        clear HFd HC1 HC2 HC3 hi HF
        generalize firstN d = fi at *
        generalize sizeN d s = zi at *
        generalize cntN f d = c at *
        by_cases y1 : fi ≤ a
        · by_cases y2 : (a : Int) + 1 ≤ (fi : Nat) + (zi : Nat)
          · omega
          · clear hi2
            go_wp2_with (first | (go_at_call 12; refine HBd.out.mono ?_; rintro e w2 ⟨rfl, hb2⟩; have B2 := hide (below_bl rfl HB.out hb2); clear hb2))
            go_roundw
            case rel => exact ⟨d + 1, by omega, by omega, by go_num, by rw [HS.out], B2.out⟩
            case measure => simp [intOf]; omega
        · clear hi2
          go_wp2_with (first | (go_at_call 12; refine HBd.out.mono ?_; rintro e w2 ⟨rfl, hb2⟩; have B2 := hide (below_bl rfl HB.out hb2); clear hb2))
          go_roundw
          case rel => exact ⟨d + 1, by omega, by omega, by go_num, by rw [HS.out], B2.out⟩
          case measure => simp [intOf]; omega

set_option maxHeartbeats 1000000 in
theorem apart_low_bad (s a : Nat) (n : Int) (hn : n < 1) (hs : s < 4294967296) (ha : a < 4294967296) (d0 x0 k : Nat) (w : World) (hA : AreasAt w) (hH : HandleAt w)
    (h1 : cntN (inL s a 1 (decide (n ≤ 4))) 8 ≤ 1) 
    (hF : Calls Tryd.prog 8 #[.int .u32 s, .int .u32 a, .int .i64 n] w fun e w' => e = .returned (.tuple #[.int .i64 (d0 : Nat), .int .u32 (x0 : Nat), .iface 61 (.int .i64 (k : Int))]) ∧ Below w.heap.size w w') :
    Calls Tryd.prog 6 #[.int .u32 s, .int .u32 a, .int .i64 n] w fun e w' => e = .returned (.bool true) ∧ Below w.heap.size w w' := by
  have HF := hide hF
  have HA := hide hA
  have HH := hide hH
  have HB1 : Hid (∀ d : Nat, 1 ≤ d → d < 8 → ∀ w, AreasAt w → Calls Tryd.prog 12 #[.int .i64 d, .int .u32 s] w fun e w' => e = .returned (.tuple #[.int .u32 (firstN d : Nat), .int .u32 (sizeN d s : Nat)]) ∧ Below w.heap.size w w') := by
    refine hide (fun d g1 g8 w hA => ?_)
    have := base_any d s hs w hA
    rw [if_pos (by omega), Int.toNat_natCast] at this
    exact this
  obtain ⟨f, hf⟩ : ∃ f, inL s a 1 (decide (n ≤ 4)) = f := ⟨_, rfl⟩
  rw [hf] at h1 
  have HFd := hide hf
  have HC1 := hide h1
  
  
  clear hF hA hH hf h1 
  go_enter Tryd.func6, Tryd.ntmps6
  go_wp2_with (go_at_call 8; refine HF.out.mono ?_; rintro e w1 ⟨rfl, hb1⟩; have B1 := hide hb1; clear hb1)
  go_loopw [10, 11] (ApRel f w) (fun _ dv _ => 8 - (intOf dv).toNat)
  case atStart => exact ⟨1, by omega, by omega, rfl, by rw [cntN, cntN, ← HFd.out]; rfl, B1.out⟩
  case round =>
    obtain ⟨d, g1, g8, rfl, rfl, hB⟩ := hrel
    have HB := hide hB
    clear hB
    by_cases hd : d = 8
    · subst hd
      have t : ¬ ((8 : Nat) : Int) ≤ 7 := by omega
      have hc := HC1.out
      clear HC1
      generalize cntN f 8 = c at *
      have hc' : (c : Int) ≤ 1 := by omega
      go_wp2_with (go_at_call 11; refine (sure_any _ (HA.out.bl HB.out) (HH.out.below HB.out)).mono ?_; rintro e w4 ⟨rfl, hb4⟩; have B4 := hide (below_bl rfl HB.out hb4); clear hb4)
      go_ret
      exact ⟨rfl, B4.out⟩
    · have t7 : (d : Int) ≤ 7 := by omega
      have hd8 : d < 8 := by omega
      have HBd := hide (HB1.out d g1 hd8 _ (HA.out.bl HB.out))
      have hfl := first_lt hd8
      have hzl : sizeN d s < 4294967296 := size_lt hd8
      have hcl := cnt_le f d
      clear HB1
      by_cases hi : f d = true
      · have hi2 : inL s a 1 (decide (n ≤ 4)) d = true := by rw [HFd.out]; exact hi
        have HS : Hid (cntN f (d + 1) = cntN f d + 1) := by rw [cntN, if_pos hi]; exact hide rfl
        unfold inL at hi2
        rw [Bool.and_eq_true, decide_eq_true_eq, decide_eq_true_eq] at hi2
        obtain ⟨⟨_, z1, z2⟩, z4⟩ := hi2
        have y1 : firstN d ≤ a := z1
        have y2 : (a : Int) + 1 ≤ (firstN d : Nat) + (sizeN d s : Nat) := by omega
        clear HFd HC1  z1 z2 hi HF
        generalize firstN d = fi at *
        generalize sizeN d s = zi at *
        generalize cntN f d = c at *
        go_wp2_with (first | (go_at_call 12; refine HBd.out.mono ?_; rintro e w2 ⟨rfl, hb2⟩; have B2 := hide (below_bl rfl HB.out hb2); clear hb2))
        go_roundw
        case rel => exact ⟨d + 1, by omega, by omega, by go_num, by rw [HS.out]; go_num, B2.out⟩
        case measure => simp [intOf]; omega
      · have HS : Hid (cntN f (d + 1) = cntN f d) := by rw [cntN, if_neg hi]; exact hide rfl
        have hi2 : inL s a 1 (decide (n ≤ 4)) d = false := by rw [HFd.out]; simpa using hi
        unfold inL at hi2
        rw [Bool.and_eq_false_iff, decide_eq_false_iff_not, decide_eq_false_iff_not] at hi2
        clear HFd HC1  hi HF
        generalize firstN d = fi at *
        generalize sizeN d s = zi at *
        generalize cntN f d = c at *
        by_cases y1 : fi ≤ a
        · by_cases y2 : (a : Int) + 1 ≤ (fi : Nat) + (zi : Nat)
          · omega
          · clear hi2
            go_wp2_with (first | (go_at_call 12; refine HBd.out.mono ?_; rintro e w2 ⟨rfl, hb2⟩; have B2 := hide (below_bl rfl HB.out hb2); clear hb2))
            go_roundw
            case rel => exact ⟨d + 1, by omega, by omega, by go_num, by rw [HS.out], B2.out⟩
            case measure => simp [intOf]; omega
        · clear hi2
          go_wp2_with (first | (go_at_call 12; refine HBd.out.mono ?_; rintro e w2 ⟨rfl, hb2⟩; have B2 := hide (below_bl rfl HB.out hb2); clear hb2))
          go_roundw
          case rel => exact ⟨d + 1, by omega, by omega, by go_num, by rw [HS.out], B2.out⟩
          case measure => simp [intOf]; omega

set_option maxHeartbeats 1000000 in
theorem apart_hi_ok (s a : Nat) (M : Nat) (hn1 : 1 ≤ M) (hM63 : M < 9223372036854775808) (hs : s < 4294967296) (ha : a < 4294967296) (d0 x0 : Nat) (w : World) (hA : AreasAt w) (hH : HandleAt w)
    (h1 : cntN (inL s a M (decide ((M : Int) ≤ 4))) 8 ≤ 1) (h2 : cntN (inL s a M (decide ((M : Int) ≤ 4))) 8 = 1) (h3 : ∀ d, d < 8 → inL s a M (decide ((M : Int) ≤ 4)) d = true → d = d0 ∧ a - firstN d = x0)
    (hF : Calls Tryd.prog 8 #[.int .u32 s, .int .u32 a, .int .i64 (M : Nat)] w fun e w' => e = .returned (.tuple #[.int .i64 (d0 : Nat), .int .u32 (x0 : Nat), .nilIface]) ∧ Below w.heap.size w w') :
    Calls Tryd.prog 6 #[.int .u32 s, .int .u32 a, .int .i64 (M : Nat)] w fun e w' => e = .returned (.bool true) ∧ Below w.heap.size w w' := by
  have HF := hide hF
  have HA := hide hA
  have HH := hide hH
  have HB1 : Hid (∀ d : Nat, 1 ≤ d → d < 8 → ∀ w, AreasAt w → Calls Tryd.prog 12 #[.int .i64 d, .int .u32 s] w fun e w' => e = .returned (.tuple #[.int .u32 (firstN d : Nat), .int .u32 (sizeN d s : Nat)]) ∧ Below w.heap.size w w') := by
    refine hide (fun d g1 g8 w hA => ?_)
    have := base_any d s hs w hA
    rw [if_pos (by omega), Int.toNat_natCast] at this
    exact this
  obtain ⟨f, hf⟩ : ∃ f, inL s a M (decide ((M : Int) ≤ 4)) = f := ⟨_, rfl⟩
  rw [hf] at h1 h2 h3
  have HFd := hide hf
  have HC1 := hide h1
  have HC2 := hide h2
  have HC3 := hide h3
  clear hF hA hH hf h1 h2 h3
  go_enter Tryd.func6, Tryd.ntmps6
  go_wp2_with (go_at_call 8; refine HF.out.mono ?_; rintro e w1 ⟨rfl, hb1⟩; have B1 := hide hb1; clear hb1)
  go_loopw [10, 11] (ApRel f w) (fun _ dv _ => 8 - (intOf dv).toNat)
  case atStart => exact ⟨1, by omega, by omega, rfl, by rw [cntN, cntN, ← HFd.out]; rfl, B1.out⟩
  case round =>
    obtain ⟨d, g1, g8, rfl, rfl, hB⟩ := hrel
    have HB := hide hB
    clear hB
    by_cases hd : d = 8
    · subst hd
      have t : ¬ ((8 : Nat) : Int) ≤ 7 := by omega
      rw [HC2.out]
      clear HC1 HC2 HC3
      go_wp2_with (go_at_call 11; refine (sure_any _ (HA.out.bl HB.out) (HH.out.below HB.out)).mono ?_; rintro e w4 ⟨rfl, hb4⟩; have B4 := hide (below_bl rfl HB.out hb4); clear hb4)
      go_ret
      exact ⟨rfl, B4.out⟩
    · have t7 : (d : Int) ≤ 7 := by omega
      have hd8 : d < 8 := by omega
      have HBd := hide (HB1.out d g1 hd8 _ (HA.out.bl HB.out))
      have hfl := first_lt hd8
      have hzl : sizeN d s < 4294967296 := size_lt hd8
      have hcl := cnt_le f d
      clear HB1
      by_cases hi : f d = true
      · have hi2 : inL s a M (decide ((M : Int) ≤ 4)) d = true := by rw [HFd.out]; exact hi
        have HS : Hid (cntN f (d + 1) = cntN f d + 1) := by rw [cntN, if_pos hi]; exact hide rfl
        obtain ⟨q1, q2⟩ := HC3.out d hd8 hi
        subst q1
        have e1 : ((d : Int) != (d : Int)) = false := by simp
        unfold inL at hi2
        rw [Bool.and_eq_true, decide_eq_true_eq, decide_eq_true_eq] at hi2
        obtain ⟨⟨_, z1, z2⟩, z4⟩ := hi2
        have y1 : firstN d ≤ a := z1
        have y2 : (a : Int) + (M : Nat) ≤ (firstN d : Nat) + (sizeN d s : Nat) := by omega
        have y3 : (a : Int) - (firstN d : Nat) = (x0 : Nat) := by omega
        have y4 : ((x0 : Int) != (x0 : Int)) = false := by simp
        clear HFd HC1 HC2 HC3 q2 z1 z2 hi HF
        generalize firstN d = fi at *
        generalize sizeN d s = zi at *
        generalize cntN f d = c at *
        go_wp2_with (first | (go_at_call 12; refine HBd.out.mono ?_; rintro e w2 ⟨rfl, hb2⟩; have B2 := hide (below_bl rfl HB.out hb2); clear hb2))
        go_roundw
        case rel => exact ⟨d + 1, by omega, by omega, by go_num, by rw [HS.out]; go_num, B2.out⟩
        case measure => simp [intOf]; omega
      · have HS : Hid (cntN f (d + 1) = cntN f d) := by rw [cntN, if_neg hi]; exact hide rfl
        have hi2 : inL s a M (decide ((M : Int) ≤ 4)) d = false := by rw [HFd.out]; simpa using hi
        unfold inL at hi2
        rw [Bool.and_eq_false_iff, decide_eq_false_iff_not, decide_eq_false_iff_not] at hi2
        clear HFd HC1 HC2 HC3 hi HF
        generalize firstN d = fi at *
        generalize sizeN d s = zi at *
        generalize cntN f d = c at *
        by_cases y1 : fi ≤ a
        · by_cases y2 : (a : Int) + (M : Nat) ≤ (fi : Nat) + (zi : Nat)
          · have y4 : ¬ ((M : Int) ≤ 4) := by omega
            clear hi2
            go_wp2_with (first | (go_at_call 12; refine HBd.out.mono ?_; rintro e w2 ⟨rfl, hb2⟩; have B2 := hide (below_bl rfl HB.out hb2); clear hb2))
            go_roundw
            case rel => exact ⟨d + 1, by omega, by omega, by go_num, by rw [HS.out], B2.out⟩
            case measure => simp [intOf]; omega
          · clear hi2
            go_wp2_with (first | (go_at_call 12; refine HBd.out.mono ?_; rintro e w2 ⟨rfl, hb2⟩; have B2 := hide (below_bl rfl HB.out hb2); clear hb2))
            go_roundw
            case rel => exact ⟨d + 1, by omega, by omega, by go_num, by rw [HS.out], B2.out⟩
            case measure => simp [intOf]; omega
        · clear hi2
          go_wp2_with (first | (go_at_call 12; refine HBd.out.mono ?_; rintro e w2 ⟨rfl, hb2⟩; have B2 := hide (below_bl rfl HB.out hb2); clear hb2))
          go_roundw
          case rel => exact ⟨d + 1, by omega, by omega, by go_num, by rw [HS.out], B2.out⟩
          case measure => simp [intOf]; omega

set_option maxHeartbeats 1000000 in
theorem apart_hi_bad (s a : Nat) (M : Nat) (hn1 : 1 ≤ M) (hM63 : M < 9223372036854775808) (hs : s < 4294967296) (ha : a < 4294967296) (d0 x0 k : Nat) (w : World) (hA : AreasAt w) (hH : HandleAt w)
    (h1 : cntN (inL s a M (decide ((M : Int) ≤ 4))) 8 ≤ 1) 
    (hF : Calls Tryd.prog 8 #[.int .u32 s, .int .u32 a, .int .i64 (M : Nat)] w fun e w' => e = .returned (.tuple #[.int .i64 (d0 : Nat), .int .u32 (x0 : Nat), .iface 61 (.int .i64 (k : Int))]) ∧ Below w.heap.size w w') :
    Calls Tryd.prog 6 #[.int .u32 s, .int .u32 a, .int .i64 (M : Nat)] w fun e w' => e = .returned (.bool true) ∧ Below w.heap.size w w' := by
  have HF := hide hF
  have HA := hide hA
  have HH := hide hH
  have HB1 : Hid (∀ d : Nat, 1 ≤ d → d < 8 → ∀ w, AreasAt w → Calls Tryd.prog 12 #[.int .i64 d, .int .u32 s] w fun e w' => e = .returned (.tuple #[.int .u32 (firstN d : Nat), .int .u32 (sizeN d s : Nat)]) ∧ Below w.heap.size w w') := by
    refine hide (fun d g1 g8 w hA => ?_)
    have := base_any d s hs w hA
    rw [if_pos (by omega), Int.toNat_natCast] at this
    exact this
  obtain ⟨f, hf⟩ : ∃ f, inL s a M (decide ((M : Int) ≤ 4)) = f := ⟨_, rfl⟩
  rw [hf] at h1 
  have HFd := hide hf
  have HC1 := hide h1
  
  
  clear hF hA hH hf h1 
  go_enter Tryd.func6, Tryd.ntmps6
  go_wp2_with (go_at_call 8; refine HF.out.mono ?_; rintro e w1 ⟨rfl, hb1⟩; have B1 := hide hb1; clear hb1)
  go_loopw [10, 11] (ApRel f w) (fun _ dv _ => 8 - (intOf dv).toNat)
  case atStart => exact ⟨1, by omega, by omega, rfl, by rw [cntN, cntN, ← HFd.out]; rfl, B1.out⟩
  case round =>
    obtain ⟨d, g1, g8, rfl, rfl, hB⟩ := hrel
    have HB := hide hB
    clear hB
    by_cases hd : d = 8
    · subst hd
      have t : ¬ ((8 : Nat) : Int) ≤ 7 := by omega
      have hc := HC1.out
      clear HC1
      generalize cntN f 8 = c at *
      have hc' : (c : Int) ≤ 1 := by omega
      go_wp2_with (go_at_call 11; refine (sure_any _ (HA.out.bl HB.out) (HH.out.below HB.out)).mono ?_; rintro e w4 ⟨rfl, hb4⟩; have B4 := hide (below_bl rfl HB.out hb4); clear hb4)
      go_ret
      exact ⟨rfl, B4.out⟩
    · have t7 : (d : Int) ≤ 7 := by omega
      have hd8 : d < 8 := by omega
      have HBd := hide (HB1.out d g1 hd8 _ (HA.out.bl HB.out))
      have hfl := first_lt hd8
      have hzl : sizeN d s < 4294967296 := size_lt hd8
      have hcl := cnt_le f d
      clear HB1
      by_cases hi : f d = true
      · have hi2 : inL s a M (decide ((M : Int) ≤ 4)) d = true := by rw [HFd.out]; exact hi
        have HS : Hid (cntN f (d + 1) = cntN f d + 1) := by rw [cntN, if_pos hi]; exact hide rfl
        unfold inL at hi2
        rw [Bool.and_eq_true, decide_eq_true_eq, decide_eq_true_eq] at hi2
        obtain ⟨⟨_, z1, z2⟩, z4⟩ := hi2
        have y1 : firstN d ≤ a := z1
        have y2 : (a : Int) + (M : Nat) ≤ (firstN d : Nat) + (sizeN d s : Nat) := by omega
        clear HFd HC1  z1 z2 hi HF
        generalize firstN d = fi at *
        generalize sizeN d s = zi at *
        generalize cntN f d = c at *
        go_wp2_with (first | (go_at_call 12; refine HBd.out.mono ?_; rintro e w2 ⟨rfl, hb2⟩; have B2 := hide (below_bl rfl HB.out hb2); clear hb2))
        go_roundw
        case rel => exact ⟨d + 1, by omega, by omega, by go_num, by rw [HS.out]; go_num, B2.out⟩
        case measure => simp [intOf]; omega
      · have HS : Hid (cntN f (d + 1) = cntN f d) := by rw [cntN, if_neg hi]; exact hide rfl
        have hi2 : inL s a M (decide ((M : Int) ≤ 4)) d = false := by rw [HFd.out]; simpa using hi
        unfold inL at hi2
        rw [Bool.and_eq_false_iff, decide_eq_false_iff_not, decide_eq_false_iff_not] at hi2
        clear HFd HC1  hi HF
        generalize firstN d = fi at *
        generalize sizeN d s = zi at *
        generalize cntN f d = c at *
        by_cases y1 : fi ≤ a
        · by_cases y2 : (a : Int) + (M : Nat) ≤ (fi : Nat) + (zi : Nat)
          · have y4 : ¬ ((M : Int) ≤ 4) := by omega
            clear hi2
            go_wp2_with (first | (go_at_call 12; refine HBd.out.mono ?_; rintro e w2 ⟨rfl, hb2⟩; have B2 := hide (below_bl rfl HB.out hb2); clear hb2))
            go_roundw
            case rel => exact ⟨d + 1, by omega, by omega, by go_num, by rw [HS.out], B2.out⟩
            case measure => simp [intOf]; omega
          · clear hi2
            go_wp2_with (first | (go_at_call 12; refine HBd.out.mono ?_; rintro e w2 ⟨rfl, hb2⟩; have B2 := hide (below_bl rfl HB.out hb2); clear hb2))
            go_roundw
            case rel => exact ⟨d + 1, by omega, by omega, by go_num, by rw [HS.out], B2.out⟩
            case measure => simp [intOf]; omega
        · clear hi2
          go_wp2_with (first | (go_at_call 12; refine HBd.out.mono ?_; rintro e w2 ⟨rfl, hb2⟩; have B2 := hide (below_bl rfl HB.out hb2); clear hb2))
          go_roundw
          case rel => exact ⟨d + 1, by omega, by omega, by go_num, by rw [HS.out], B2.out⟩
          case measure => simp [intOf]; omega

theorem apart_walk (s a : Nat) (n : Int) (hn63 : n < 9223372036854775808) (hs : s < 4294967296) (ha : a < 4294967296) (w : World) (hA : AreasAt w) (hH : HandleAt w) :
    Calls Tryd.prog 6 #[.int .u32 s, .int .u32 a, .int .i64 n] w fun e w' => e = .returned (.bool true) ∧ Below w.heap.size w w' := by
  have hF := find_any s a n hs ha w hA
  obtain ⟨q, hq⟩ : ∃ q, findV s a n = q := ⟨_, rfl⟩
  rw [hq] at hF
  obtain ⟨d0, x0, k⟩ := q
  unfold fndV errB at hF
  by_cases hl : n < 1
  · obtain ⟨h1, h2, h3⟩ := apart_facts (M := 1) (.inl ⟨hl, rfl⟩) hq
    by_cases hk : k = 0
    · subst hk
      exact apart_low_ok s a n hl hs ha d0 x0 w hA hH h1 (h2 rfl) (fun d hd hi => h3 d hd hi rfl) hF
    · rw [if_neg hk] at hF
      exact apart_low_bad s a n hl hs ha d0 x0 k w hA hH h1 hF
  · obtain ⟨M, rfl⟩ := Int.eq_ofNat_of_zero_le (show 0 ≤ n by omega)
    obtain ⟨h1, h2, h3⟩ := apart_facts (M := M) (.inr ⟨by omega, rfl⟩) hq
    by_cases hk : k = 0
    · subst hk
      exact apart_hi_ok s a M (by omega) (by omega) hs ha d0 x0 w hA hH h1 (h2 rfl) (fun d hd hi => h3 d hd hi rfl) hF
    · rw [if_neg hk] at hF
      exact apart_hi_bad s a M (by omega) (by omega) hs ha d0 x0 k w hA hH h1 hF
end Go.Proofs.YtcjfjkkkepjpmaaDoor
