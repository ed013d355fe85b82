/-
  MemBack: of every place, all bytes and every other place: what was written is read, and all beside it stays; what must come whatever the input is comes; the arguments stay. No condition.
-/
import Derived.Test.YtijeceibkdcdaaaMeBack
import Derived.Test.YtijeceibkdcdaaaMeBytes
import Derived.ProofKit
import Derived.OpenShut
import Derived.ChangeOld
import Derived.Below
namespace Go.Proofs.Ytijeceibkdcdaaa
open Go.ChangeShapes Go.WideShapes Go.ChangeAt Go.RowKit
set_option linter.unusedVariables false

theorem own : ownKnob Try.prog.godebug = none := by kernel_rfl
theorem laidOut : laidOutB Try.prog = true := by kernel_rfl

theorem back_at (A K : Int) (hA : (Lit.int .u32 A).wf = true) (hK : (Lit.int .u32 K).wf = true) (a0 : Option Addr) (N cap : Nat) (g : Nat → UInt8) (w : World) (hb : IsBytes w a0 N cap g) :
    Calls Try.prog 3 #[.int .u32 A, .slice a0 N cap, .int .u32 K] w fun e w' => e = .returned (.bool true) ∧ Below w.heap.size w w' := by
  have bA := bounds_u32 hA
  have bK := bounds_u32 hK
  have hl := hb.len_le
  obtain ⟨i, hi⟩ := Int.eq_ofNat_of_zero_le (show 0 ≤ A % 12288 by omega)
  obtain ⟨j, hj⟩ := Int.eq_ofNat_of_zero_le (show 0 ≤ K % 12288 by omega)
  have hA' : 0 ≤ A ∧ A < 4294967296 := by omega
  have hK' : 0 ≤ K ∧ K < 4294967296 := by omega
  by_cases h1 : 4000 < N
  · exact back_long A K i j hi hj hA' hK' a0 N cap (by omega) h1 w
  · by_cases h2 : 12288 < i + N
    · exact back_over A K i j hi hj hA' hK' a0 N cap (by omega) h1 h2 w
    · by_cases h3 : N = 0
      · subst h3
        by_cases h4 : i ≤ j
        · exact back_none_above A K i j hi hj hA' hK' a0 cap h4 (by omega) w
        · exact back_none_below A K i j hi hj hA' hK' a0 cap h4 w
      · rcases hb with ⟨hz, _⟩ | ⟨b, off, rfl, hp, hlt, hlc, hcm, hcell⟩
        · exact absurd hz h3
        have hlen : ((List.range N).map g).length = N := by simp
        have hsrc : ∀ x u, (cellsB ((List.range N).map g))[x]? = some u → w.cell? ⟨b, off + x, none⟩ = some u := by
          intro x u hx
          have hxl : x < N := by
            have := (List.getElem?_eq_some_iff.1 hx).1
            rwa [cellsB_length, hlen] at this
          rw [hcell x (by omega), ← hx]
          simp [cellsB, List.getElem?_range hxl]
        by_cases h4 : i ≤ j
        · by_cases h5 : j < i + N
          · exact back_inside A K i j hi hj hA' hK' b off cap _ N hlen (by omega) hlc (by omega) (by omega) h4 h5 w hlt hsrc
          · exact back_above A K i j hi hj hA' hK' b off cap _ N hlen (by omega) hlc (by omega) (by omega) h4 (by omega) w hlt hsrc
        · exact back_below A K i j hi hj hA' hK' b off cap _ N hlen (by omega) hlc (by omega) (by omega) (by omega) w hlt hsrc

set_option maxRecDepth 100000 in
theorem memBack_lifted (os : Os) (started : os.Started) (H : Type) (enc : TypeId × Value → H) :
    ReturnsInHanded {} Try.checked os 3 .any (Rows.memBackSpec.pre6 enc Try.prog Try.f3 Rows.memBackRow.domain false) (Rows.memBackSpec.post enc Try.prog Try.f3 false true false false) := by
  refine returnsInHanded_of_change (C := Try.checked) own started (by kernel_rfl) Try.func3
    (ChangeSpec.witness6 (enc := enc) (C := Try.checked) false ⟨#[], #[.int .u32 0, .slice none 0 0, .int .u32 0], []⟩ 8 (by kernel_rfl) (by kernel_rfl) (by kernel_rfl) (by kernel_rfl)) ?_
  intro W base args ds gs before hval0 hW hcnd _
  have hval : ∀ (j : Nat) t v, Try.f3.params[j]? = some t → args[j]? = some v → Value.okWide Try.prog W .any base t v := hval0
  have hW' := hW
  obtain ⟨p, q, hA0, hV, rfl, hfz, hnd⟩ := hW
  have hA : DataW.TrodAll enc Try.prog W 0 (fun _ => true) true Try.f3.params.toList args.toList ds p := hA0
  rw [Try.params3] at hA hval
  obtain ⟨v0, vs0, d0, ds0, p0, q0, hargs, rfl, rfl, h0, r0⟩ := trodAll_cons hA
  obtain ⟨v1, vs1, d1, ds1, p1, q1, rfl, rfl, rfl, h1, r1⟩ := trodAll_cons r0
  obtain ⟨v2, vs2, d2, ds2, p2, q2, rfl, rfl, rfl, h2, r2⟩ := trodAll_cons r1
  obtain ⟨rfl, rfl, rfl⟩ := trodAll_nil r2
  obtain rfl : args = #[v0, v1, v2] := by cases args; simp_all
  obtain ⟨rfl, rfl⟩ := trodVars_none hV
  obtain ⟨a0, rfl, rfl, rfl, w0⟩ := open_int Try.underlying22 (hval 0 22 v0 rfl rfl) h0
  obtain ⟨a1, len1, cap1, rfl⟩ := okWide_slice Try.underlying23 (hval 1 23 v1 rfl rfl)
  have lt1 : ∀ x ∈ p1, x.block < W.heap.size := by obtain ⟨m, hm⟩ := h1; exact DataW.trod_lt m _ _ _ hm
  obtain ⟨g, w1⟩ := open_bytes Try.underlying23 Try.underlying5 (by kernel_rfl) h1
  obtain ⟨a2, rfl, rfl, rfl, w2⟩ := open_int Try.underlying22 (hval 2 22 v2 rfl rfl) h2
  clear hA0 hval0
  refine (back_at a0 a2 w0 w2 a1 len1 cap1 g W w1).mono fun e W' ⟨he, bel⟩ => ?_
  subst he
  exact ⟨_, rfl, _, _, _, [], _, [], hW', trodAll_mk1 (shut_bool Try.underlying4 _), (trodAll_cons_mk (shut_int Try.underlying22 w0) (trodAll_cons_mk (Below.trod laidOut (by kernel_rfl) (of_decide_eq_true (by kernel_rfl)) h1 bel lt1) (trodAll_cons_mk (shut_int Try.underlying22 w2) trodAll_mk0))), rfl, bel.frame _, fun h => by cases h⟩

theorem memBack_over : Rows.memBackRow.holds Try.pinned (OpenSpec.ofChange Rows.memBackSpec) :=
  OpenClaim.holds_of_wide 3 Try.f3 rfl rfl rfl rfl rfl rfl rfl ⟨rfl, rfl, rfl, rfl, rfl⟩ rfl rfl rfl rfl rfl (by kernel_rfl) Try.func3 (by kernel_rfl)
    (of_decide_eq_true (by kernel_rfl)) (by unfold Func.isWrapper; first | (rw [if_pos (by decide +kernel)]; kernel_rfl) | (rw [if_neg (by decide +kernel)]; exact ⟨rfl, rfl⟩))
    (fun os started H enc _ => memBack_lifted os started H enc)

theorem memBack_proved : Rows.MemBackSaid := memBack_over
#print axioms memBack_proved
end Go.Proofs.Ytijeceibkdcdaaa
