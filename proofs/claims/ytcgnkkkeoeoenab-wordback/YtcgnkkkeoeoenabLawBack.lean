/-
  WordBack: bits that were set are got again, and all others stay; a number that was set in bytes is got again, whatever words and numbers are handed in; the arguments stay. No condition.
-/
import Derived.Test.YtcgnkkkeoeoenabBackA
import Derived.Test.YtcgnkkkeoeoenabBackB
import Derived.Test.YtcgnkkkeoeoenabBackC
import Derived.Test.YtcgnkkkeoeoenabArrays
import Derived.ProofKit
import Derived.OpenShut
import Derived.ChangeOld
import Derived.Below
namespace Go.Proofs.Ytcgnkkkeoeoenab
open Go.ChangeShapes Go.WideShapes Go.ChangeAt Go.RowKit
set_option linter.unusedVariables false

theorem own : ownKnob Try.prog.godebug = none := by kernel_rfl
theorem laidOut : laidOutB Try.prog = true := by kernel_rfl

theorem uwrap (a : Int) : ∃ u : Nat, IntKind.u64.wrap a = (u : Int) ∧ u < 18446744073709551616 := by
  refine ⟨(a % 18446744073709551616).toNat, ?_, ?_⟩
  · rw [IntKind.wrap_u64]; omega
  · omega

theorem back_walk (b0 b1 a0 a1 a2 a3 : Int) (w0 : (Lit.int .u32 b0).wf = true) (w1 : (Lit.int .u32 b1).wf = true) (w : World) :
    Calls Try.prog 3 #[.int .u32 b0, .int .u32 b1, .agg #[.int .i64 a0, .int .i64 a1, .int .i64 a2, .int .i64 a3]] w fun e w' => e = .returned (.bool true) ∧ Below w.heap.size w w' := by
  have hb0 := bounds_u32 w0
  have hb1 := bounds_u32 w1
  obtain ⟨v, rfl⟩ := Int.eq_ofNat_of_zero_le (show 0 ≤ b0 by omega)
  obtain ⟨x, rfl⟩ := Int.eq_ofNat_of_zero_le (show 0 ≤ b1 by omega)
  have hv : v < 4294967296 := by omega
  have hx : x < 4294967296 := by omega
  obtain ⟨u0, e0, l0⟩ := uwrap a0
  obtain ⟨u1, e1, l1⟩ := uwrap a1
  obtain ⟨u2, e2, l2⟩ := uwrap a2
  obtain ⟨u3, e3, l3⟩ := uwrap a3
  have hlo : (u0 : Int) % 32 = ((u0 % 32 : Nat) : Int) := by simp
  have c0 : u0 % 32 ≤ 31 := by omega
  generalize u0 % 32 = lo at *
  have hm : (u1 : Int) % (32 - (lo : Int)) = ((u1 % (32 - lo) : Nat) : Int) := by
    rw [Int.natCast_emod]; congr 1; omega
  have c1 : lo + u1 % (32 - lo) ≤ 31 := by have := Nat.mod_lt u1 (show 0 < 32 - lo by omega); omega
  generalize u1 % (32 - lo) = m at *
  have hk : (u2 : Int) % 32 = ((u2 % 32 : Nat) : Int) := by simp
  have c2 : u2 % 32 ≤ 31 := by omega
  have p8 : (u2 : Int) % 8 = ((u2 % 8 : Nat) : Int) := by simp
  have p4 : (u2 : Int) % 4 = ((u2 % 4 : Nat) : Int) := by simp
  have p2 : (u2 : Int) % 2 = ((u2 % 2 : Nat) : Int) := by simp
  have q8 : u2 % 8 < 8 := by omega
  have q4 : u2 % 4 < 4 := by omega
  have q2 : u2 % 2 < 2 := by omega
  generalize u2 % 32 = k at *
  have hj : (u3 : Int) % 3 = 0 ∨ (u3 : Int) % 3 = 1 ∨ (u3 : Int) % 3 = 2 := by omega
  by_cases ca : k < lo
  · rcases hj with hj | hj | hj
    · exact back_a1 v x hv hx a0 a1 a2 a3 u0 u1 u2 u3 lo m k _ w e0 e1 e2 e3 l0 l1 l2 l3 hlo hm hk hj p8 q8 c0 c1 c2 ca
    · exact back_a2 v x hv hx a0 a1 a2 a3 u0 u1 u2 u3 lo m k _ w e0 e1 e2 e3 l0 l1 l2 l3 hlo hm hk hj p4 q4 c0 c1 c2 ca
    · exact back_a4 v x hv hx a0 a1 a2 a3 u0 u1 u2 u3 lo m k _ w e0 e1 e2 e3 l0 l1 l2 l3 hlo hm hk hj p2 q2 c0 c1 c2 ca
  · by_cases cb : k < lo + 1 + m
    · rcases hj with hj | hj | hj
      · exact back_b1 v x hv hx a0 a1 a2 a3 u0 u1 u2 u3 lo m k _ w e0 e1 e2 e3 l0 l1 l2 l3 hlo hm hk hj p8 q8 c0 c1 c2 ⟨by omega, cb⟩
      · exact back_b2 v x hv hx a0 a1 a2 a3 u0 u1 u2 u3 lo m k _ w e0 e1 e2 e3 l0 l1 l2 l3 hlo hm hk hj p4 q4 c0 c1 c2 ⟨by omega, cb⟩
      · exact back_b4 v x hv hx a0 a1 a2 a3 u0 u1 u2 u3 lo m k _ w e0 e1 e2 e3 l0 l1 l2 l3 hlo hm hk hj p2 q2 c0 c1 c2 ⟨by omega, cb⟩
    · rcases hj with hj | hj | hj
      · exact back_c1 v x hv hx a0 a1 a2 a3 u0 u1 u2 u3 lo m k _ w e0 e1 e2 e3 l0 l1 l2 l3 hlo hm hk hj p8 q8 c0 c1 c2 (by omega)
      · exact back_c2 v x hv hx a0 a1 a2 a3 u0 u1 u2 u3 lo m k _ w e0 e1 e2 e3 l0 l1 l2 l3 hlo hm hk hj p4 q4 c0 c1 c2 (by omega)
      · exact back_c4 v x hv hx a0 a1 a2 a3 u0 u1 u2 u3 lo m k _ w e0 e1 e2 e3 l0 l1 l2 l3 hlo hm hk hj p2 q2 c0 c1 c2 (by omega)

set_option maxRecDepth 100000 in
theorem back_lifted (os : Os) (started : os.Started) (H : Type) (enc : TypeId × Value → H) :
    ReturnsInHanded {} Try.checked os 3 .any (Rows.wordBackSpec.pre6 enc Try.prog Try.f3 Rows.wordBackRow.domain false) (Rows.wordBackSpec.post enc Try.prog Try.f3 false true false false) := by
  refine returnsInHanded_of_change (C := Try.checked) own started (by kernel_rfl) Try.func3
    (ChangeSpec.witness6 (enc := enc) (C := Try.checked) false ⟨#[], #[.int .u32 0, .int .u32 0, .agg #[.int .i64 0, .int .i64 0, .int .i64 0, .int .i64 0]], []⟩ 8 (by kernel_rfl) (by kernel_rfl) (by kernel_rfl) (by kernel_rfl)) ?_
  intro W base args ds gs before hval0 hW hcnd _
  have hval : ∀ (j : Nat) t v, Try.f3.params[j]? = some t → args[j]? = some v → Value.okWide Try.prog W .any base t v := hval0
  have hW' := hW
  obtain ⟨p, q, hA0, hV, rfl, hfz, hnd⟩ := hW
  have hA : DataW.TrodAll enc Try.prog W 0 (fun _ => true) true Try.f3.params.toList args.toList ds p := hA0
  rw [Try.params3] at hA hval
  obtain ⟨v0, vs0, d0, ds0, p0, q0, hargs, rfl, rfl, h0, r0⟩ := trodAll_cons hA
  obtain ⟨v1, vs1, d1, ds1, p1, q1, rfl, rfl, rfl, h1, r1⟩ := trodAll_cons r0
  obtain ⟨v2, vs2, d2, ds2, p2, q2, rfl, rfl, rfl, h2, r2⟩ := trodAll_cons r1
  obtain ⟨rfl, rfl, rfl⟩ := trodAll_nil r2
  obtain rfl : args = #[v0, v1, v2] := by cases args; simp_all
  obtain ⟨rfl, rfl⟩ := trodVars_none hV
  obtain ⟨a0, rfl, rfl, rfl, w0⟩ := open_int Try.underlying22 (hval 0 22 v0 rfl rfl) h0
  obtain ⟨a1, rfl, rfl, rfl, w1⟩ := open_int Try.underlying22 (hval 1 22 v1 rfl rfl) h1
  have lt2 : ∀ x ∈ p2, x.block < W.heap.size := by obtain ⟨m, hm⟩ := h2; exact DataW.trod_lt m _ _ _ hm
  obtain ⟨z0, z1, z2, z3, rfl, hz0, hz1, hz2, hz3⟩ := open_array4 Try.underlying23 Try.underlying3 (by kernel_rfl) (by kernel_rfl) (hval 2 23 v2 rfl rfl) h2
  clear hA0 hval0
  refine (back_walk a0 a1 z0 z1 z2 z3 w0 w1 W).mono fun e W' ⟨he, bel⟩ => ?_
  subst he
  exact ⟨_, rfl, _, _, _, [], _, [], hW', trodAll_mk1 (shut_bool Try.underlying4 _), (trodAll_cons_mk (shut_int Try.underlying22 w0) (trodAll_cons_mk (shut_int Try.underlying22 w1) (trodAll_cons_mk (Below.trod laidOut (by kernel_rfl) (of_decide_eq_true (by kernel_rfl)) h2 bel lt2) trodAll_mk0))), rfl, bel.frame _, fun h => by cases h⟩

theorem back_over : Rows.wordBackRow.holds Try.pinned (OpenSpec.ofChange Rows.wordBackSpec) :=
  OpenClaim.holds_of_wide 3 Try.f3 rfl rfl rfl rfl rfl rfl rfl ⟨rfl, rfl, rfl, rfl, rfl⟩ rfl rfl rfl rfl rfl (by kernel_rfl) Try.func3 (by kernel_rfl)
    (of_decide_eq_true (by kernel_rfl)) (by unfold Func.isWrapper; first | (rw [if_pos (by decide +kernel)]; kernel_rfl) | (rw [if_neg (by decide +kernel)]; exact ⟨rfl, rfl⟩))
    (fun os started H enc _ => back_lifted os started H enc)

theorem wordBack_proved : Rows.WordBackSaid := back_over
#print axioms wordBack_proved
end Go.Proofs.Ytcgnkkkeoeoenab
