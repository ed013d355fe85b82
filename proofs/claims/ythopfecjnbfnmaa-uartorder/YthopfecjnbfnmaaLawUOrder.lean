/-
  UartOrder: of every list of acts: bytes go out as they were written, one every four ticks, and are read as they came; those that have no room are lost, and told; what must come whatever the input is comes; the argument stays. No conditions.
-/
import Derived.Test.YthopfecjnbfnmaaUaOrderW
import Derived.Test.YthopfecjnbfnmaaUaOpen
import Derived.Test.YthopfecjnbfnmaaFlatRows
import Derived.ProofKit
import Derived.OpenShut
import Derived.ChangeOld
import Derived.Below
namespace Go.Proofs.Ythopfecjnbfnmaa
open Go.ChangeShapes Go.WideShapes Go.ChangeAt Go.RowKit
set_option linter.unusedVariables false

theorem own : ownKnob Try.prog.godebug = none := by kernel_rfl
theorem laidOut : laidOutB Try.prog = true := by kernel_rfl

theorem open_acts {H : Type} {enc : TypeId × Value → H} {W : World} {base : Nat} {spare : Nat → Bool} {held : Bool} {a : Option Addr} {len cap : Nat} {d : DataW H} {p : List MemPlace}
    (h : DataW.Trod enc Try.prog W base spare held 39 (.slice a len cap) d p) : ∃ f : Nat → A2, len ≤ 9223372036854775807 ∧ ActsAt a len f W := by
  obtain ⟨h1, h2, g, hg⟩ := open_rows (ks := [.i64, .u8]) Try.underlying39 Try.underlying43 (by kernel_rfl) (by decide) (fun i f hf => by
    match i, hf with
    | 0, hf => cases hf; exact ⟨by kernel_rfl, by kernel_rfl, rfl⟩
    | 1, hf => cases hf; exact ⟨by kernel_rfl, by kernel_rfl, rfl⟩
    | n + 2, hf => simp at hf) h
  unfold maxLen at h2
  refine ⟨fun j => ⟨g j 0, (g j 1).toNat⟩, by omega, fun j hj => ?_⟩
  obtain ⟨⟨b, o, e, hc⟩, hw⟩ := hg j hj
  have k0 := hc 0 (by decide)
  have k1 := hc 1 (by decide)
  have b1 := bounds_u8 (hw 1 (by decide))
  refine ⟨?_, b, o, e, k0, ?_⟩
  · show (g j 1).toNat < 256; omega
  · show _ = some (Value.int .u8 (((g j 1).toNat : Nat) : Int)); rw [Int.toNat_of_nonneg b1.1]; exact k1

set_option maxRecDepth 100000 in
theorem uartOrder_lifted (os : Os) (started : os.Started) (H : Type) (enc : TypeId × Value → H) :
    ReturnsInHanded {} Try.checked os 4 .any (Rows.uartOrderSpec.pre6 enc Try.prog Try.f4 Rows.uartOrderRow.domain false) (Rows.uartOrderSpec.post enc Try.prog Try.f4 false true false false) := by
  refine returnsInHanded_of_change (C := Try.checked) own started (by kernel_rfl) Try.func4
    (ChangeSpec.witness6 (enc := enc) (C := Try.checked) false ⟨#[], #[.slice none 0 0], []⟩ 8 (by kernel_rfl) (by kernel_rfl) (by kernel_rfl) (by kernel_rfl)) ?_
  intro W base args ds gs before hval0 hW hcnd _
  have hval : ∀ (j : Nat) t v, Try.f4.params[j]? = some t → args[j]? = some v → Value.okWide Try.prog W .any base t v := hval0
  have hW' := hW
  obtain ⟨p, q, hA0, hV, rfl, hfz, hnd⟩ := hW
  have hA : DataW.TrodAll enc Try.prog W 0 (fun _ => true) true Try.f4.params.toList args.toList ds p := hA0
  rw [Try.params4] at hA hval
  obtain ⟨v0, vs0, d0, ds0, p0, q0, hargs, rfl, rfl, h0, r0⟩ := trodAll_cons hA
  obtain ⟨rfl, rfl, rfl⟩ := trodAll_nil r0
  obtain rfl : args = #[v0] := by cases args; simp_all
  obtain ⟨rfl, rfl⟩ := trodVars_none hV
  obtain ⟨s0, len0, cap0, rfl⟩ := okWide_slice Try.underlying39 (hval 0 39 v0 rfl rfl)
  have lt0 : ∀ x ∈ p0, x.block < W.heap.size := by obtain ⟨m, hm⟩ := h0; exact DataW.trod_lt m _ _ _ hm
  obtain ⟨f0, ml0, g0⟩ := open_acts h0
  clear hA0 hval0
  refine (order_walk _ _ _ ml0 f0 W g0).mono fun e W' ⟨he, bel⟩ => ?_
  subst he
  exact ⟨_, rfl, _, _, _, [], _, [], hW', trodAll_mk1 (shut_bool Try.underlying4 _), (trodAll_cons_mk (Below.trod laidOut (by kernel_rfl) (of_decide_eq_true (by kernel_rfl)) h0 bel lt0) trodAll_mk0), rfl, bel.frame _, fun h => by cases h⟩

theorem uartOrder_over : Rows.uartOrderRow.holds Try.pinned (OpenSpec.ofChange Rows.uartOrderSpec) :=
  OpenClaim.holds_of_wide 4 Try.f4 rfl rfl rfl rfl rfl rfl rfl ⟨rfl, rfl, rfl, rfl, rfl⟩ rfl rfl rfl rfl rfl (by kernel_rfl) Try.func4 (by kernel_rfl)
    (of_decide_eq_true (by kernel_rfl)) (by unfold Func.isWrapper; first | (rw [if_pos (by decide +kernel)]; kernel_rfl) | (rw [if_neg (by decide +kernel)]; exact ⟨rfl, rfl⟩))
    (fun os started H enc _ => uartOrder_lifted os started H enc)

theorem uartOrder_proved : Rows.UartOrderSaid := uartOrder_over
#print axioms uartOrder_proved
end Go.Proofs.Ythopfecjnbfnmaa
