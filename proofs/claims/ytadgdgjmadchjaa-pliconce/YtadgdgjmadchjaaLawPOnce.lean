/-
  PlicOnce: of every state that may be, and every list of acts: the state stays one that may be; a source that was claimed is not served again ahead of its end, and none is that did not ask; what must come whatever the input is comes; the arguments stay. No conditions.
-/
import Derived.Test.YtadgdgjmadchjaaPlOnceW
import Derived.Test.YtadgdgjmadchjaaPlOpen
import Derived.Test.YtadgdgjmadchjaaFlatRows
import Derived.ProofKit
import Derived.OpenShut
import Derived.ChangeOld
import Derived.Below
namespace Go.Proofs.Ytadgdgjmadchjaa
open Go.ChangeShapes Go.WideShapes Go.ChangeAt Go.RowKit
set_option linter.unusedVariables false

theorem own : ownKnob Try.prog.godebug = none := by kernel_rfl
theorem laidOut : laidOutB Try.prog = true := by kernel_rfl

set_option maxRecDepth 100000 in
theorem open_acts {H : Type} {enc : TypeId × Value → H} {W : World} {base : Nat} {spare : Nat → Bool} {held : Bool} {a : Option Addr} {len cap : Nat} {d : DataW H} {p : List MemPlace}
    (h : DataW.Trod enc Try.prog W base spare held 31 (.slice a len cap) d p) : ∃ f : Nat → A3, len ≤ 9223372036854775807 ∧ ActsAt a len f W := by
  obtain ⟨h1, h2, g, hg⟩ := open_rows (ks := [.i64, .u32, .u32]) Try.underlying31 Try.underlying37 (by kernel_rfl) (by decide) (by
    intro i f hf
    match i, hf with
    | 0, hf => cases hf; exact ⟨Try.underlying3, by kernel_rfl, rfl⟩
    | 1, hf => cases hf; exact ⟨Try.underlying22, by kernel_rfl, rfl⟩
    | 2, hf => cases hf; exact ⟨Try.underlying22, by kernel_rfl, rfl⟩
    | n + 3, hf => simp at hf) h
  refine ⟨fun j => ⟨g j 0, (g j 1).toNat, (g j 2).toNat⟩, by unfold maxLen at h2; omega, fun j hj => ?_⟩
  obtain ⟨⟨b, o, e, hc⟩, hw⟩ := hg j hj
  have b1 := bounds_u32 (hw 1 (by decide))
  have b2 := bounds_u32 (hw 2 (by decide))
  have k0 : W.cell? ⟨b, o + j * 3, none⟩ = some (.int .i64 (g j 0)) := hc 0 (by decide)
  have k1 : W.cell? ⟨b, o + j * 3 + 1, none⟩ = some (.int .u32 (g j 1)) := hc 1 (by decide)
  have k2 : W.cell? ⟨b, o + j * 3 + 2, none⟩ = some (.int .u32 (g j 2)) := hc 2 (by decide)
  refine ⟨⟨?_, ?_⟩, b, o, e, ?_⟩
  · show (g j 1).toNat < 4294967296; omega
  · show (g j 2).toNat < 4294967296; omega
  · intro i v hv
    match i, hv with
    | 0, hv => cases hv; exact k0
    | 1, hv => cases hv; show _ = some (Value.int .u32 (((g j 1).toNat : Nat) : Int)); rw [k1, Int.toNat_of_nonneg b1.1]
    | 2, hv => cases hv; show _ = some (Value.int .u32 (((g j 2).toNat : Nat) : Int)); rw [k2, Int.toNat_of_nonneg b2.1]
    | n + 3, hv => cases hv
theorem once_at (s : P5) (hs : s.Ok) (p : Option Addr) (n c : Nat) (hn : n ≤ 9223372036854775807) (f : Nat → A3) (w : World) (hA : ActsAt p n f w) :
    Calls Try.prog 4 #[.agg s.cells, .slice p n c] w fun e w' => e = .returned (.bool true) ∧ Below w.heap.size w w' := by
  cases hm : mayP5 s with
  | false => exact once_no s hs p n c hm w
  | true => exact once_yes s hs p n c hn hm f w hA

set_option maxRecDepth 100000 in
theorem plicOnce_lifted (os : Os) (started : os.Started) (H : Type) (enc : TypeId × Value → H) :
    ReturnsInHanded {} Try.checked os 4 .any (Rows.plicOnceSpec.pre6 enc Try.prog Try.f4 Rows.plicOnceRow.domain false) (Rows.plicOnceSpec.post enc Try.prog Try.f4 false true false false) := by
  refine returnsInHanded_of_change (C := Try.checked) own started (by kernel_rfl) Try.func4
    (ChangeSpec.witness6 (enc := enc) (C := Try.checked) false ⟨#[], #[.agg #[.int .u32 0, .int .u32 0, .int .u32 0, .int .u32 0, .int .u32 0, .int .u32 0, .int .u32 0, .int .u32 0, .int .u32 0, .int .u32 0, .int .u32 0, .int .u32 0], .slice none 0 0], []⟩ 8 (by kernel_rfl) (by kernel_rfl) (by kernel_rfl) (by kernel_rfl)) ?_
  intro W base args ds gs before hval0 hW hcnd _
  have hval : ∀ (j : Nat) t v, Try.f4.params[j]? = some t → args[j]? = some v → Value.okWide Try.prog W .any base t v := hval0
  have hW' := hW
  obtain ⟨p, q, hA0, hV, rfl, hfz, hnd⟩ := hW
  have hA : DataW.TrodAll enc Try.prog W 0 (fun _ => true) true Try.f4.params.toList args.toList ds p := hA0
  rw [Try.params4] at hA hval
  obtain ⟨v0, vs0, d0, ds0, p0, q0, hargs, rfl, rfl, h0, r0⟩ := trodAll_cons hA
  obtain ⟨v1, vs1, d1, ds1, p1, q1, rfl, rfl, rfl, h1, r1⟩ := trodAll_cons r0
  obtain ⟨rfl, rfl, rfl⟩ := trodAll_nil r1
  obtain rfl : args = #[v0, v1] := by cases args; simp_all
  obtain ⟨rfl, rfl⟩ := trodVars_none hV
  have lt0 : ∀ x ∈ p0, x.block < W.heap.size := by obtain ⟨m, hm⟩ := h0; exact DataW.trod_lt m _ _ _ hm
  obtain ⟨i0, hi0, rfl⟩ := open_plic (hval 0 25 v0 rfl rfl) h0
  obtain ⟨s1, len1, cap1, rfl⟩ := okWide_slice Try.underlying31 (hval 1 31 v1 rfl rfl)
  have lt1 : ∀ x ∈ p1, x.block < W.heap.size := by obtain ⟨m, hm⟩ := h1; exact DataW.trod_lt m _ _ _ hm
  obtain ⟨f1, ml1, g1⟩ := open_acts h1
  clear hA0 hval0
  refine (once_at i0 hi0 _ _ _ ml1 f1 W g1).mono fun e W' ⟨he, bel⟩ => ?_
  subst he
  exact ⟨_, rfl, _, _, _, [], _, [], hW', trodAll_mk1 (shut_bool Try.underlying4 _), (trodAll_cons_mk (Below.trod laidOut (by kernel_rfl) (of_decide_eq_true (by kernel_rfl)) h0 bel lt0) (trodAll_cons_mk (Below.trod laidOut (by kernel_rfl) (of_decide_eq_true (by kernel_rfl)) h1 bel lt1) trodAll_mk0)), rfl, bel.frame _, fun h => by cases h⟩

theorem plicOnce_over : Rows.plicOnceRow.holds Try.pinned (OpenSpec.ofChange Rows.plicOnceSpec) :=
  OpenClaim.holds_of_wide 4 Try.f4 rfl rfl rfl rfl rfl rfl rfl ⟨rfl, rfl, rfl, rfl, rfl⟩ rfl rfl rfl rfl rfl (by kernel_rfl) Try.func4 (by kernel_rfl)
    (of_decide_eq_true (by kernel_rfl)) (by unfold Func.isWrapper; first | (rw [if_pos (by decide +kernel)]; kernel_rfl) | (rw [if_neg (by decide +kernel)]; exact ⟨rfl, rfl⟩))
    (fun os started H enc _ => plicOnce_lifted os started H enc)

theorem plicOnce_proved : Rows.PlicOnceSaid := plicOnce_over
#print axioms plicOnce_proved
end Go.Proofs.Ytadgdgjmadchjaa
