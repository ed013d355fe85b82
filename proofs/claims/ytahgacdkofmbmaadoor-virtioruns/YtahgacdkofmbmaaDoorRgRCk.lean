/-
  What the document's Check of a ring answers.
-/
import Derived.Test.YtahgacdkofmbmaaDoorRgChk
namespace Go.Proofs.YtahgacdkofmbmaaDoor
open Go.RowKit
set_option linter.unusedVariables false
set_option linter.unusedSimpArgs false

attribute [local go_sem] Rg.at0 Rg.at1 Rg.at2 Rg.at3 Rg.at4 Rg.at5
/-- Is s one of the first k powers of 2? -/
def inPw (s : Int) : Nat → Bool
  | 0 => false
  | k + 1 => inPw s k || (s == ((2 ^ k : Nat) : Int))
theorem inPw_all (s : Int) : inPw s 9 = okSz s := by
  simp only [inPw, okSz, Bool.false_or]
  rfl
set_option maxHeartbeats 2000000 in
theorem dcheck_any (r : Rg) (hr0 : r.Ok) (w : World) : Calls Tryd.prog 31 #[.agg r.cells] w fun e w' => e = .returned (.int .i64 (if chkR r then 0 else 1)) ∧ Below w.heap.size w w' := by
  obtain ⟨z, hz⟩ : ∃ z : Int, (if chkR r = true then (0 : Int) else 1) = z := ⟨_, rfl⟩
  rw [hz]
  have HZ := hide hz
  clear hz
  go_enter Tryd.func31, Tryd.ntmps31
  go_wp2_with (first | ((with_reducible refine bx_rr w.heap.size r ?_ ?_ ?_); exact rfl; exact rfl; intro W hr hb hz; have fx := hr.cell))
  have HR := hide hr
  have HB := hide hb
  clear hr hb hz fx
  go_loopw [3, 4] (fun pv nv wr => ∃ k : Nat, k ≤ 9 ∧ pv = .bool (inPw r.sz k) ∧ nv = .int .i64 ((2 ^ k : Nat) : Int) ∧ wr = W) (fun pv nv _ => 600 - (intOf nv).toNat)
  case atStart => exact ⟨0, Nat.zero_le _, rfl, rfl, rfl⟩
  case round =>
    obtain ⟨k, hk, rfl, rfl, rfl⟩ := hrel
    have fx := HR.out.cell
    by_cases hlt : k < 9
    · have hp : 2 ^ k ≤ 256 := Nat.le_trans (Nat.pow_le_pow_right (by decide) (show k ≤ 8 by omega)) (by decide)
      have hp0 : 0 < 2 ^ k := Nat.pow_pos (by decide)
      have hst : inPw r.sz (k + 1) = (inPw r.sz k || (r.sz == ((2 ^ k : Nat) : Int))) := rfl
      have hps : (2 ^ (k + 1) : Nat) = 2 * 2 ^ k := by rw [Nat.pow_succ]; omega
      have HST := hide hst
      have HPS := hide hps
      obtain ⟨P, hP⟩ : ∃ x, 2 ^ k = x := ⟨_, rfl⟩
      rw [hP] at hp hp0 HST HPS ⊢
      have l1 : (P : Int) ≤ 256 := by omega
      obtain ⟨pb, hpb⟩ : ∃ x, inPw r.sz k = x := ⟨_, rfl⟩
      rw [hpb] at HST ⊢
      clear hst hps hP hpb
      cases pb with
      | true =>
        go_wp2
        go_roundw
        case rel => exact ⟨k + 1, hlt, by rw [HST.out]; rfl, by rw [HPS.out]; go_num, by first | rfl | trivial⟩
        case measure => simp [intOf]; omega
      | false =>
        go_wp2
        go_roundw
        case rel => exact ⟨k + 1, hlt, by rw [HST.out]; rfl, by rw [HPS.out]; go_num, by first | rfl | trivial⟩
        case measure => simp [intOf]; omega
    · obtain rfl : k = 9 := by omega
      rw [inPw_all]
      have l1 : decide (((2 ^ 9 : Nat) : Int) ≤ 256) = false := by decide
      have hd := hr0.de
      have hv := hr0.av
      have hu := hr0.us
      obtain ⟨sz, de, av, us, la, pu⟩ := r
      simp only at hd hv hu ⊢
      obtain ⟨ob, hob⟩ : ∃ x, okSz sz = x := ⟨_, rfl⟩
      have HCK : Hid (∀ b, alR ⟨sz, de, av, us, la, pu⟩ = b → (if chkR ⟨sz, de, av, us, la, pu⟩ = true then (0 : Int) else 1) = if (ob && b) = true then 0 else 1) := hide (fun b e => by unfold chkR; rw [e]; simp only; rw [hob])
      rw [hob]
      clear hob
      cases ob with
      | false =>
        go_wp2
        go_ret
        exact ⟨by rw [← HZ.out, HCK.out _ rfl]; rfl, HB.out⟩
      | true =>
        by_cases d1 : de % 16 = 0
        · by_cases d2 : av % 2 = 0
          · by_cases d3 : us % 4 = 0
            · have HC := hide (HCK.out true (by unfold alR; simp [d1, d2, d3]))
              have mde1 : (((de : Int) % 16) != 0) = false := by simp; omega
              have mde2 : ((((de % 16 : Nat)) : Int) != 0) = false := by simp; omega
              have mde3 : (((de : Int) % 16) == 0) = true := by simp; omega
              have mde4 : ((((de % 16 : Nat)) : Int) == 0) = true := by simp; omega
              have mav1 : (((av : Int) % 2) != 0) = false := by simp; omega
              have mav2 : ((((av % 2 : Nat)) : Int) != 0) = false := by simp; omega
              have mav3 : (((av : Int) % 2) == 0) = true := by simp; omega
              have mav4 : ((((av % 2 : Nat)) : Int) == 0) = true := by simp; omega
              have mus1 : (((us : Int) % 4) != 0) = false := by simp; omega
              have mus2 : ((((us % 4 : Nat)) : Int) != 0) = false := by simp; omega
              have mus3 : (((us : Int) % 4) == 0) = true := by simp; omega
              have mus4 : ((((us % 4 : Nat)) : Int) == 0) = true := by simp; omega
              clear d1 d2 d3
              go_wp2
              go_ret
              exact ⟨by rw [← HZ.out, HC.out]; rfl, HB.out⟩
            · have HC := hide (HCK.out false (by unfold alR; simp [d3]))
              have mde1 : (((de : Int) % 16) != 0) = false := by simp; omega
              have mde2 : ((((de % 16 : Nat)) : Int) != 0) = false := by simp; omega
              have mde3 : (((de : Int) % 16) == 0) = true := by simp; omega
              have mde4 : ((((de % 16 : Nat)) : Int) == 0) = true := by simp; omega
              have mav1 : (((av : Int) % 2) != 0) = false := by simp; omega
              have mav2 : ((((av % 2 : Nat)) : Int) != 0) = false := by simp; omega
              have mav3 : (((av : Int) % 2) == 0) = true := by simp; omega
              have mav4 : ((((av % 2 : Nat)) : Int) == 0) = true := by simp; omega
              have mus1 : (((us : Int) % 4) != 0) = true := by simp; omega
              have mus2 : ((((us % 4 : Nat)) : Int) != 0) = true := by simp; omega
              have mus3 : (((us : Int) % 4) == 0) = false := by simp; omega
              have mus4 : ((((us % 4 : Nat)) : Int) == 0) = false := by simp; omega
              clear d1 d2 d3
              go_wp2
              go_ret
              exact ⟨by rw [← HZ.out, HC.out]; rfl, HB.out⟩
          · have HC := hide (HCK.out false (by unfold alR; simp [d2]))
            have mde1 : (((de : Int) % 16) != 0) = false := by simp; omega
            have mde2 : ((((de % 16 : Nat)) : Int) != 0) = false := by simp; omega
            have mde3 : (((de : Int) % 16) == 0) = true := by simp; omega
            have mde4 : ((((de % 16 : Nat)) : Int) == 0) = true := by simp; omega
            have mav1 : (((av : Int) % 2) != 0) = true := by simp; omega
            have mav2 : ((((av % 2 : Nat)) : Int) != 0) = true := by simp; omega
            have mav3 : (((av : Int) % 2) == 0) = false := by simp; omega
            have mav4 : ((((av % 2 : Nat)) : Int) == 0) = false := by simp; omega
            clear d1 d2
            go_wp2
            go_ret
            exact ⟨by rw [← HZ.out, HC.out]; rfl, HB.out⟩
        · have HC := hide (HCK.out false (by unfold alR; simp [d1]))
          have mde1 : (((de : Int) % 16) != 0) = true := by simp; omega
          have mde2 : ((((de % 16 : Nat)) : Int) != 0) = true := by simp; omega
          have mde3 : (((de : Int) % 16) == 0) = false := by simp; omega
          have mde4 : ((((de % 16 : Nat)) : Int) == 0) = false := by simp; omega
          clear d1
          go_wp2
          go_ret
          exact ⟨by rw [← HZ.out, HC.out]; rfl, HB.out⟩
end Go.Proofs.YtahgacdkofmbmaaDoor
