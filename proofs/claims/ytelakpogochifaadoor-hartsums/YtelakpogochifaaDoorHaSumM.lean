/-
  HartSums: the program that adds up, as plain numbers.
-/
import Derived.Test.YtelakpogochifaaDoorHaBeg
namespace Go.Proofs.YtelakpogochifaaDoor
open Go.RowKit
set_option linter.unusedVariables false

def codeL : List Nat := [165987, 5440307, 4294083219, 4284477551, 273678451]
def codeN (t : Nat) : Nat := codeL.getD t 0
def codeC : Array Value := #[.int .u32 165987, .int .u32 5440307, .int .u32 4294083219, .int .u32 4284477551, .int .u32 273678451]
theorem codeN_lt (t : Nat) : codeN t < 4294967296 := by
  unfold codeN codeL
  rcases t with _ | _ | _ | _ | _ | t
  all_goals first | decide | simp
theorem codeC_at (t : Nat) (ht : t < 5) : codeC[t]? = some (.int .u32 (codeN t : Nat)) := by
  rcases t with _ | _ | _ | _ | _ | t
  all_goals first | rfl | omega
/-- The numbers from 1 to n, added up. -/
def tri : Nat → Nat
  | 0 => 0
  | n + 1 => tri n + (n + 1)
theorem tri_two (n : Nat) : 2 * tri n = n * (n + 1) := by
  induction n with
  | zero => rfl
  | succ n ih => simp only [tri, Nat.mul_add, ih, Nat.add_mul, Nat.one_mul, Nat.mul_one]; omega
theorem tri_le (n : Nat) (h : n < 60) : tri n ≤ 1770 := by
  have := tri_two n
  have h2 : n * (n + 1) ≤ 59 * 60 := Nat.mul_le_mul (by omega) (by omega)
  omega
/-- Where the hart is, round by round. -/
def Inv (K i : Nat) (h : H) : Prop :=
  h.Ok ∧ h.x 0 = 0 ∧
  ((h.wt = false ∧ ∃ t, t < 5 ∧ h.pc = 256 + 4 * t ∧ ((t = 0 ∧ i = 4 * (K - h.x 5) ∧ h.x 5 ≤ K ∧ h.x 6 + tri (h.x 5) = tri K) ∨ (t = 1 ∧ i = 4 * (K - h.x 5) + 1 ∧ 1 ≤ h.x 5 ∧ h.x 5 ≤ K ∧ h.x 6 + tri (h.x 5) = tri K) ∨
      (t = 2 ∧ i = 4 * (K - h.x 5) + 2 ∧ 1 ≤ h.x 5 ∧ h.x 5 ≤ K ∧ h.x 6 + tri (h.x 5 - 1) = tri K) ∨ (t = 3 ∧ i + 1 = 4 * (K - h.x 5) ∧ h.x 5 < K ∧ h.x 6 + tri (h.x 5) = tri K) ∨ (t = 4 ∧ i = 4 * K + 1 ∧ h.x 5 = 0 ∧ h.x 6 = tri K))) ∨
   (h.wt = true ∧ i = 4 * K + 2 ∧ h.x 5 = 0 ∧ h.x 6 = tri K))
theorem dec_0 : decOp 165987 = some 4 := by decide +kernel
theorem told_0 : toldN 4 165987 = ⟨4, 0, 5, 0, 16, 0⟩ := (I6.same_iff _ _).1 (by decide +kernel)
theorem does_c0 (h : H) : doH h 165987 0 = doOp h 4 ⟨4, 0, 5, 0, 16, 0⟩ 165987 0 := by
  unfold doH
  rw [dec_0]
  show doOp h 4 (toldN 4 165987) 165987 0 = _
  rw [told_0]
theorem dec_1 : decOp 5440307 = some 27 := by decide +kernel
theorem told_1 : toldN 27 5440307 = ⟨27, 6, 6, 5, 0, 0⟩ := (I6.same_iff _ _).1 (by decide +kernel)
theorem does_c1 (h : H) : doH h 5440307 0 = doOp h 27 ⟨27, 6, 6, 5, 0, 0⟩ 5440307 0 := by
  unfold doH
  rw [dec_1]
  show doOp h 27 (toldN 27 5440307) 5440307 0 = _
  rw [told_1]
theorem dec_2 : decOp 4294083219 = some 18 := by decide +kernel
theorem told_2 : toldN 18 4294083219 = ⟨18, 5, 5, 0, -1, 0⟩ := (I6.same_iff _ _).1 (by decide +kernel)
theorem does_c2 (h : H) : doH h 4294083219 0 = doOp h 18 ⟨18, 5, 5, 0, -1, 0⟩ 4294083219 0 := by
  unfold doH
  rw [dec_2]
  show doOp h 18 (toldN 18 4294083219) 4294083219 0 = _
  rw [told_2]
theorem dec_3 : decOp 4284477551 = some 2 := by decide +kernel
theorem told_3 : toldN 2 4284477551 = ⟨2, 0, 0, 0, -12, 0⟩ := (I6.same_iff _ _).1 (by decide +kernel)
theorem does_c3 (h : H) : doH h 4284477551 0 = doOp h 2 ⟨2, 0, 0, 0, -12, 0⟩ 4284477551 0 := by
  unfold doH
  rw [dec_3]
  show doOp h 2 (toldN 2 4284477551) 4284477551 0 = _
  rw [told_3]
theorem dec_4 : decOp 273678451 = some 50 := by decide +kernel
theorem told_4 : toldN 50 273678451 = ⟨50, 0, 0, 0, 0, 0⟩ := (I6.same_iff _ _).1 (by decide +kernel)
theorem does_c4 (h : H) : doH h 273678451 0 = doOp h 50 ⟨50, 0, 0, 0, 0, 0⟩ 273678451 0 := by
  unfold doH
  rw [dec_4]
  show doOp h 50 (toldN 50 273678451) 273678451 0 = _
  rw [told_4]
theorem gen_2 (h : H) (im : Int) (v : Nat) : (doOp h 18 ⟨18, 5, 5, 0, im, 0⟩ v 0).1 = nextH (writeH h 5 ((h.x 5 + immN im) % 4294967296)) := rfl
theorem gen_3 (h : H) (im : Int) (v : Nat) : (doOp h 2 ⟨2, 0, 0, 0, im, 0⟩ v 0).1 = jumpH h 0 ((h.pc + immN im) % 4294967296) := rfl
theorem step_0 (h : H) : (doH h 165987 0).1 = if holdsN 0 (h.x 5) (h.x 0) then goH h ((h.pc + 16) % 4294967296) else nextH h := by rw [does_c0]; rfl
theorem step_1 (h : H) : (doH h 5440307 0).1 = nextH (writeH h 6 ((h.x 6 + h.x 5) % 4294967296)) := by rw [does_c1]; rfl
theorem step_2 (h : H) : (doH h 4294083219 0).1 = nextH (writeH h 5 ((h.x 5 + 4294967295) % 4294967296)) := by
  have e : immN (-1) = 4294967295 := by decide
  rw [does_c2, gen_2, e]
theorem step_3 (h : H) : (doH h 4284477551 0).1 = jumpH h 0 ((h.pc + 4294967284) % 4294967296) := by
  have e : immN (-12) = 4294967284 := by decide
  rw [does_c3, gen_3, e]
theorem step_4 (h : H) : (doH h 273678451 0).1 = nextH ⟨h.pc, h.x, true, h.c⟩ := by rw [does_c4]; rfl
theorem nextH_at (h : H) (p : Nat) (hp : h.pc = p) (h4 : (p + 4) % 4 = 0) (hl : p + 4 < 4294967296) : nextH h = ⟨p + 4, h.x, h.wt, upCt h.c⟩ := by
  unfold nextH goH
  rw [hp, Nat.mod_eq_of_lt hl, if_pos h4]
theorem set_same (x : Nat → Nat) (r v : Nat) : setX x r v r = v := if_pos rfl
theorem set_far (x : Nat → Nat) (r v i : Nat) (h : i ≠ r) : setX x r v i = x i := if_neg h
theorem inv_start (K : Nat) (hK : K < 60) : Inv K 0 ⟨256, setX (fun _ => 0) 5 K, false, zeroS⟩ := by
  refine ⟨⟨by show 256 < _; decide, fun i => setX_lt (x := fun _ => 0) (fun _ => by decide) 5 (v := K) (by omega) i, zeroS_ok⟩, rfl, Or.inl ⟨rfl, 0, by decide, rfl, Or.inl ⟨rfl, ?_, ?_, ?_⟩⟩⟩
  · show 0 = 4 * (K - K); omega
  · show K ≤ K; omega
  · show 0 + tri K = tri K; omega
theorem inv_step (K : Nat) (hK : K < 60) (i : Nat) (h : H) (hi : Inv K i h) (hw : h.wt = false) : ∃ t, t < 5 ∧ h.pc = 256 + 4 * t ∧ i < 300 ∧ Inv K (i + 1) (doH h (codeN t) 0).1 := by
  obtain ⟨ok, h0, hc⟩ := hi
  have h6 := ok.x 6
  have h5 := ok.x 5
  rcases hc with ⟨_, t, ht, hpc, hc⟩ | ⟨hw', _⟩
  · refine ⟨t, ht, hpc, ?_, ?_⟩
    · rcases hc with ⟨_, hi, hx, _⟩ | ⟨_, hi, _, hx, _⟩ | ⟨_, hi, _, hx, _⟩ | ⟨_, hi, hx, _⟩ | ⟨_, hi, _⟩ <;> omega
    · rcases hc with ⟨rfl, hi, hx, hs⟩ | ⟨rfl, hi, hx1, hx, hs⟩ | ⟨rfl, hi, hx1, hx, hs⟩ | ⟨rfl, hi, hx, hs⟩ | ⟨rfl, hi, hx, hs⟩
      · show Inv K (i + 1) (doH h 165987 0).1
        rw [step_0]
        have hh : holdsN 0 (h.x 5) (h.x 0) = decide (h.x 5 = 0) := by
          rw [h0]; show (h.x 5 == 0) = _; rw [Bool.eq_iff_iff]; simp
        rw [hh]
        by_cases hz : h.x 5 = 0
        · rw [if_pos (by simpa using hz)]
          have e : goH h ((h.pc + 16) % 4294967296) = ⟨272, h.x, h.wt, upCt h.c⟩ := by
            unfold goH; rw [hpc]; rfl
          rw [e]
          refine ⟨⟨by show 272 < _; decide, ok.x, upCt_ok ok.c⟩, h0, Or.inl ⟨hw, 4, by decide, rfl, Or.inr (Or.inr (Or.inr (Or.inr ⟨rfl, ?_, hz, ?_⟩)))⟩⟩
          · omega
          · show h.x 6 = tri K; rw [hz] at hs; simpa [tri] using hs
        · rw [if_neg (by simpa using hz), nextH_at h 256 (by omega) (by decide) (by decide)]
          refine ⟨⟨by show 260 < _; decide, ok.x, upCt_ok ok.c⟩, h0, Or.inl ⟨hw, 1, by decide, rfl, Or.inr (Or.inl ⟨rfl, ?_, ?_, hx, hs⟩)⟩⟩
          · show i + 1 = 4 * (K - h.x 5) + 1; omega
          · show 1 ≤ h.x 5; omega
      · show Inv K (i + 1) (doH h 5440307 0).1
        rw [step_1]
        have ht6 := tri_le K hK
        obtain ⟨m, hm⟩ : ∃ m, h.x 5 = m + 1 := ⟨h.x 5 - 1, by omega⟩
        have hs2 : h.x 6 + (tri m + (m + 1)) = tri K := by rw [hm] at hs; exact hs
        have e : writeH h 6 ((h.x 6 + h.x 5) % 4294967296) = ⟨h.pc, setX h.x 6 (h.x 6 + h.x 5), h.wt, h.c⟩ := by
          unfold writeH; rw [if_neg (by decide), Nat.mod_eq_of_lt (by omega)]
        rw [e, nextH_at ⟨h.pc, setX h.x 6 (h.x 6 + h.x 5), h.wt, h.c⟩ 260 hpc (by decide) (by decide)]
        have s5 : setX h.x 6 (h.x 6 + h.x 5) 5 = h.x 5 := rfl
        have s6 : setX h.x 6 (h.x 6 + h.x 5) 6 = h.x 6 + h.x 5 := rfl
        have s0 : setX h.x 6 (h.x 6 + h.x 5) 0 = h.x 0 := rfl
        refine ⟨⟨by show 264 < _; decide, fun i => setX_lt ok.x 6 (by omega) i, upCt_ok ok.c⟩, s0.trans h0, Or.inl ⟨hw, 2, by decide, rfl, Or.inr (Or.inr (Or.inl ⟨rfl, ?_, ?_, ?_, ?_⟩))⟩⟩
        · show i + 1 = 4 * (K - setX h.x 6 (h.x 6 + h.x 5) 5) + 2; rw [s5]; omega
        · show 1 ≤ setX h.x 6 (h.x 6 + h.x 5) 5; rw [s5]; omega
        · show setX h.x 6 (h.x 6 + h.x 5) 5 ≤ K; rw [s5]; omega
        · show setX h.x 6 (h.x 6 + h.x 5) 6 + tri (setX h.x 6 (h.x 6 + h.x 5) 5 - 1) = tri K
          rw [s5, s6, hm, show m + 1 - 1 = m from rfl]; omega
      · show Inv K (i + 1) (doH h 4294083219 0).1
        rw [step_2]
        have e1 : (h.x 5 + 4294967295) % 4294967296 = h.x 5 - 1 := by omega
        have e : writeH h 5 ((h.x 5 + 4294967295) % 4294967296) = ⟨h.pc, setX h.x 5 (h.x 5 - 1), h.wt, h.c⟩ := by
          unfold writeH; rw [if_neg (by decide), e1]
        rw [e, nextH_at ⟨h.pc, setX h.x 5 (h.x 5 - 1), h.wt, h.c⟩ 264 hpc (by decide) (by decide)]
        have s5 : setX h.x 5 (h.x 5 - 1) 5 = h.x 5 - 1 := rfl
        have s6 : setX h.x 5 (h.x 5 - 1) 6 = h.x 6 := rfl
        have s0 : setX h.x 5 (h.x 5 - 1) 0 = h.x 0 := rfl
        refine ⟨⟨by show 268 < _; decide, fun i => setX_lt ok.x 5 (by omega) i, upCt_ok ok.c⟩, s0.trans h0, Or.inl ⟨hw, 3, by decide, rfl, Or.inr (Or.inr (Or.inr (Or.inl ⟨rfl, ?_, ?_, ?_⟩)))⟩⟩
        · show i + 1 + 1 = 4 * (K - setX h.x 5 (h.x 5 - 1) 5); rw [s5]; omega
        · show setX h.x 5 (h.x 5 - 1) 5 < K; rw [s5]; omega
        · show setX h.x 5 (h.x 5 - 1) 6 + tri (setX h.x 5 (h.x 5 - 1) 5) = tri K; rw [s5, s6]; exact hs
      · show Inv K (i + 1) (doH h 4284477551 0).1
        rw [step_3]
        have e : jumpH h 0 ((h.pc + 4294967284) % 4294967296) = ⟨256, h.x, h.wt, upCt h.c⟩ := by
          unfold jumpH goH writeH; rw [hpc]; rfl
        rw [e]
        refine ⟨⟨by show 256 < _; decide, ok.x, upCt_ok ok.c⟩, h0, Or.inl ⟨hw, 0, by decide, rfl, Or.inl ⟨rfl, ?_, ?_, hs⟩⟩⟩
        · exact hi
        · show h.x 5 ≤ K; omega
      · show Inv K (i + 1) (doH h 273678451 0).1
        rw [step_4, nextH_at ⟨h.pc, h.x, true, h.c⟩ 272 hpc (by decide) (by decide)]
        refine ⟨⟨by show 276 < _; decide, ok.x, upCt_ok ok.c⟩, h0, Or.inr ⟨rfl, ?_, hx, hs⟩⟩
        omega
  · rw [hw] at hw'; cases hw'
theorem inv_end (K : Nat) (i : Nat) (h : H) (hi : Inv K i h) (hw : h.wt = true) : h.x 5 = 0 ∧ h.x 6 = tri K := by
  obtain ⟨_, _, hc⟩ := hi
  rcases hc with ⟨hw', _⟩ | ⟨_, _, h5, h6⟩
  · rw [hw] at hw'; cases hw'
  · exact ⟨h5, h6⟩
end Go.Proofs.YtelakpogochifaaDoor
