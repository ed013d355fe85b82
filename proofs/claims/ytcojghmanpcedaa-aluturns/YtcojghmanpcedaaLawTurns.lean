/-
  AluTurns: for every two words: what is added is taken away again; a word that is moved higher, and lower again, has its low bits; of each condition and its contrary one holds; what must come whatever the input is comes; the arguments stay. No condition.
-/
import Derived.Test.YtcojghmanpcedaaAluHolds
import Derived.Test.YtcojghmanpcedaaAluSure
import Derived.ProofKit
import Derived.OpenShut
import Derived.ChangeOld
import Derived.Below
namespace Go.Proofs.Ytcojghmanpcedaa
open Go.ChangeShapes Go.WideShapes Go.ChangeAt Go.RowKit
set_option linter.unusedVariables false

theorem own : ownKnob Try.prog.godebug = none := by kernel_rfl

theorem turn_sub (a b : Nat) (ha : a < 4294967296) (hb : b < 4294967296) : doN 1 (doN 0 a b) b = a := by
  show wordN _ = a
  have e : (wordN (((doN 0 a b : Nat) : Int) - b) : Int) = a := by
    rw [wordN_cast]
    show (((a + b) % 4294967296 : Nat) - (b : Int)) % 4294967296 = a
    omega
  omega

set_option maxHeartbeats 1000000 in
theorem lturns_walk (a0 a1 : Int) (w0 : (Lit.int .u32 a0).wf = true) (w1 : (Lit.int .u32 a1).wf = true) (w : World) :
    Calls Try.prog 6 #[.int .u32 a0, .int .u32 a1] w fun e w' => e = .returned (.bool true) ∧ Below w.heap.size w w' := by
  have hb0 := bounds_u32 w0
  have hb1 := bounds_u32 w1
  obtain ⟨a, rfl⟩ := Int.eq_ofNat_of_zero_le (show 0 ≤ a0 by omega)
  obtain ⟨b, rfl⟩ := Int.eq_ofNat_of_zero_le (show 0 ≤ a1 by omega)
  have ha : a < 4294967296 := by omega
  have hb : b < 4294967296 := by omega
  clear hb0 hb1 w0 w1
  have hX : doN 0 a b < 4294967296 := Nat.mod_lt _ (by decide)
  have hZ : doN 2 a b < 4294967296 := Nat.mod_lt _ (by decide)
  have D0 := hide (do_0 a b ha hb)
  have D1 := hide (do_1 (doN 0 a b) b hX hb)
  have D2 := hide (do_2 a b ha hb)
  have D6 := hide (do_6 (doN 2 a b) b hZ hb)
  have HH := hide (fun k hk => holds_any k hk a b ha hb)
  have HT := hide (holds_turn a b)
  have HS := hide sure_any
  rw [turn_sub a b ha hb] at D1
  have eW : Hid ((doN 6 (doN 2 a b) b : Int) = (a : Int) * 2 ^ (b % 32) % 4294967296 / 2 ^ (b % 32)) := by
    show ((a * 2 ^ (b % 32) % 4294967296 / 2 ^ (b % 32) : Nat) : Int) = _
    simp
  have hl := low_five b hb
  have hm : b % 32 ≤ 31 := by omega
  have hne : ((doN 6 (doN 2 a b) b : Int) != (a : Int) * 2 ^ (b % 32) % 4294967296 / 2 ^ (b % 32)) = false := by rw [eW.out]; simp
  clear eW
  generalize doN 6 (doN 2 a b) b = W at *
  generalize doN 0 a b = X at *
  generalize doN 2 a b = Z at *
  generalize b % 32 = m at *
  go_enter Try.func6, Try.ntmps6
  go_wp2_with (fail)
  refine (D0.out _).mono ?_
  rintro e w1 ⟨rfl, n1, rfl⟩
  go_wp2_with (fail)
  refine (D1.out _).mono ?_
  rintro e w1 ⟨rfl, n2, rfl⟩
  go_wp2_with (fail)
  refine (D2.out _).mono ?_
  rintro e w1 ⟨rfl, n3, rfl⟩
  go_wp2_with (fail)
  refine (D6.out _).mono ?_
  rintro e w1 ⟨rfl, n4, rfl⟩
  go_wp2_with (fail)
  clear D0 D1 D2 D6
  go_loop [14] (fun i => ∃ j : Nat, j ≤ 3 ∧ i = .int .i64 (2 * (j : Int))) (fun i => 6 - (intOf i).toNat)
  case atStart => exact ⟨0, by omega, rfl⟩
  case round =>
    obtain ⟨j, hj, rfl⟩ := hrel
    by_cases hlt : j < 3
    · have ht := HT.out j hlt
      have H1 := hide (HH.out (2 * j) (by omega) (2 * (j : Int)) (by omega))
      have H2 := hide (HH.out (2 * j + 1) (by omega) (2 * (j : Int) + 1) (by omega))
      rw [ht] at H1
      clear HH HT ht
      generalize holdsN (2 * j + 1) a b = p at *
      go_wp2_with (fail)
      refine (H1.out _).mono ?_
      rintro e w1 ⟨rfl, rfl⟩
      go_wp2_with (fail)
      refine (H2.out _).mono ?_
      rintro e w1 ⟨rfl, rfl⟩
      cases p
      all_goals
        go_wp2
        go_round
        case rel => exact ⟨j + 1, by omega, by go_num⟩
        case measure => simp [intOf]; omega
    · obtain rfl : j = 3 := by omega
      go_wp2_with (first | (go_at_call 9; refine (HS.out _).mono ?_; rintro e w3 ⟨rfl, m, rfl⟩))
      go_ret
      exact ⟨rfl, below_drewN (Below.refl _ _) _⟩

set_option maxRecDepth 100000 in
theorem lturns_lifted (os : Os) (started : os.Started) (H : Type) (enc : TypeId × Value → H) :
    ReturnsInHanded {} Try.checked os 6 .any (Rows.aluTurnsSpec.pre6 enc Try.prog Try.f6 Rows.aluTurnsRow.domain false) (Rows.aluTurnsSpec.post enc Try.prog Try.f6 false true false false) := by
  refine returnsInHanded_of_change (C := Try.checked) own started (by kernel_rfl) Try.func6
    (ChangeSpec.witness6 (enc := enc) (C := Try.checked) false ⟨#[], #[.int .u32 0, .int .u32 0], []⟩ 8 (by kernel_rfl) (by kernel_rfl) (by kernel_rfl) (by kernel_rfl)) ?_
  intro W base args ds gs before hval0 hW hcnd _
  have hval : ∀ (j : Nat) t v, Try.f6.params[j]? = some t → args[j]? = some v → Value.okWide Try.prog W .any base t v := hval0
  have hW' := hW
  obtain ⟨p, q, hA0, hV, rfl, hfz, hnd⟩ := hW
  have hA : DataW.TrodAll enc Try.prog W 0 (fun _ => true) true Try.f6.params.toList args.toList ds p := hA0
  rw [Try.params6] at hA hval
  obtain ⟨v0, vs0, d0, ds0, p0, q0, hargs, rfl, rfl, h0, r0⟩ := trodAll_cons hA
  obtain ⟨v1, vs1, d1, ds1, p1, q1, rfl, rfl, rfl, h1, r1⟩ := trodAll_cons r0
  obtain ⟨rfl, rfl, rfl⟩ := trodAll_nil r1
  obtain rfl : args = #[v0, v1] := by cases args; simp_all
  obtain ⟨rfl, rfl⟩ := trodVars_none hV
  obtain ⟨a0, rfl, rfl, rfl, w0⟩ := open_int Try.underlying22 (hval 0 22 v0 rfl rfl) h0
  obtain ⟨a1, rfl, rfl, rfl, w1⟩ := open_int Try.underlying22 (hval 1 22 v1 rfl rfl) h1
  clear hA0 hval0
  refine (lturns_walk a0 a1 w0 w1 W).mono fun e W' ⟨he, bel⟩ => ?_
  subst he
  exact ⟨_, rfl, _, _, _, [], [], [], hW', trodAll_mk1 (shut_bool Try.underlying4 _), (trodAll_cons_mk (shut_int Try.underlying22 w0) (trodAll_cons_mk (shut_int Try.underlying22 w1) trodAll_mk0)), rfl, bel.frame _, fun h => by cases h⟩

theorem lturns_over : Rows.aluTurnsRow.holds Try.pinned (OpenSpec.ofChange Rows.aluTurnsSpec) :=
  OpenClaim.holds_of_wide 6 Try.f6 rfl rfl rfl rfl rfl rfl rfl ⟨rfl, rfl, rfl, rfl, rfl⟩ rfl rfl rfl rfl rfl (by kernel_rfl) Try.func6 (by kernel_rfl)
    (of_decide_eq_true (by kernel_rfl)) (by unfold Func.isWrapper; first | (rw [if_pos (by decide +kernel)]; kernel_rfl) | (rw [if_neg (by decide +kernel)]; exact ⟨rfl, rfl⟩))
    (fun os started H enc _ => lturns_lifted os started H enc)

theorem aluTurns_proved : Rows.AluTurnsSaid := lturns_over
#print axioms aluTurns_proved
end Go.Proofs.Ytcojghmanpcedaa
