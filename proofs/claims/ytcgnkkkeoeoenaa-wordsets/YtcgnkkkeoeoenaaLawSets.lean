/-
  WordSets: for every word, every place, every number of bits and every other word the program's Set is the document's, and what must come whatever the input is comes; the arguments stay. No condition.
-/
import Derived.Test.YtcgnkkkeoeoenaaRefSet
import Derived.Test.YtcgnkkkeoeoenaaCheck
import Derived.Test.YtcgnkkkeoeoenaaArrays
import Derived.ProofKit
import Derived.OpenShut
import Derived.ChangeOld
import Derived.Below
import Derived.Deep.RegionHeld3
namespace Go.Proofs.Ytcgnkkkeoeoenaa
open Go.ChangeShapes Go.WideShapes Go.ChangeAt Go.RowKit
set_option linter.unusedVariables false

theorem own : ownKnob Try.prog.godebug = none := by kernel_rfl
theorem laidOut : laidOutB Try.prog = true := by kernel_rfl

theorem sets_eq (v : Nat) (hv : v < 4294967296) (lo n : Int) (x : Nat) (hx : x < 4294967296) : setW v lo n x = num (setBit v lo n x) 32 := set_num v hv lo n x hx

/-- Nothing that lay in w is turned, and one block more lies. -/
def Grew (w w' : World) : Prop := Below w.heap.size w w' ∧ w.heap.size < w'.heap.size

theorem keep_box {w w1 w2 : World} {c : Value} {j : Nat} (hg : Grew w w1) (hb : Below w1.heap.size w1 w2) (h : w1.cell? ⟨w.heap.size, j, none⟩ = some c) : w2.cell? ⟨w.heap.size, j, none⟩ = some c :=
  (hb.cell (p := ⟨w.heap.size, j, none⟩) hg.2).trans h
theorem Grew.then {w w1 w2 : World} (hg : Grew w w1) (hb : Below w1.heap.size w1 w2) : Grew w w2 := ⟨hg.1.trans (hb.mono hg.1.size), Nat.lt_of_lt_of_le hg.2 hb.size⟩

/-- What the law's box holds, and that nothing that lay is turned. -/
def Box2 (w : World) (a b : Value) (w' : World) : Prop := w'.cell? ⟨w.heap.size, 0, none⟩ = some a ∧ w'.cell? ⟨w.heap.size, 1, none⟩ = some b ∧ Grew w w'

theorem Calls.box2 {P : Program} {f : Nat} {args : Array Value} {w w1 : World} {a b r : Value} (hs : w1.cell? ⟨w.heap.size, 0, none⟩ = some a ∧ w1.cell? ⟨w.heap.size, 1, none⟩ = some b ∧ Grew w w1)
    (h : Calls P f args w1 fun e w2 => e = .returned r ∧ Below w1.heap.size w1 w2) :
    Calls P f args w1 fun e w2 => e = .returned r ∧ w2.cell? ⟨w.heap.size, 0, none⟩ = some a ∧ w2.cell? ⟨w.heap.size, 1, none⟩ = some b ∧ Grew w w2 :=
  h.mono fun e w2 ⟨he, hb⟩ => ⟨he, keep_box hs.2.2 hb hs.1, keep_box hs.2.2 hb hs.2.1, hs.2.2.then hb⟩

set_option maxHeartbeats 4000000 in
set_option maxRecDepth 100000 in
theorem sets_walk (a0 a1 a2 a3 : Int) (w0 : (Lit.int .u32 a0).wf = true) (w1 : (Lit.int .i64 a1).wf = true) (w2 : (Lit.int .i64 a2).wf = true) (w3 : (Lit.int .u32 a3).wf = true) (w : World) :
    Calls Try.prog 5 #[.int .u32 a0, .agg #[.int .i64 a1, .int .i64 a2], .int .u32 a3] w fun e w' => e = .returned (.bool true) ∧ Below w.heap.size w w' := by
  have hb := bounds_u32 w0
  have hb1 := bounds_i64 w1
  have hb2 := bounds_i64 w2
  have hb3 := bounds_u32 w3
  obtain ⟨v, rfl⟩ := Int.eq_ofNat_of_zero_le (show 0 ≤ a0 by omega)
  obtain ⟨x, rfl⟩ := Int.eq_ofNat_of_zero_le (show 0 ≤ a3 by omega)
  have hv : v < 4294967296 := by omega
  have hx : x < 4294967296 := by omega
  have he := sets_eq v hv a1 a2 x hx
  have HR : Hid (_) := refset_any v hv a1 a2 (by omega) (by omega) x hx
  rw [← he] at HR
  have HS : Hid (_) := set_any v hv a1 a2 (by omega) (by omega) (by omega) x hx
  clear he w0 w1 w2 w3 hb hb1 hb2 hb3
  generalize setW v a1 a2 x = z at *
  have hg : Grew w (w.alloc (.cells #[.int .i64 a1, .int .i64 a2] 28)) := ⟨(Below.refl _ w).alloc (Nat.le_refl _) _, by simp⟩
  have hg' : Grew w (w.alloc (.cells #[.int .i64 a1, .int .i64 a2] 28)).drew := ⟨hg.1.drew, hg.2⟩
  go_enter Try.func5, Try.ntmps5
  go_wp2
  go_region_held3 (fun w' => w'.cell? ⟨w.heap.size, 0, none⟩ = some (.int .i64 a1) ∧ w'.cell? ⟨w.heap.size, 1, none⟩ = some (.int .i64 a2) ∧ Grew w w') (go_keep)
    (first | (go_at_call 11; refine (HS.out _).mono ?_; rintro e w' ⟨rfl, rfl⟩) | (go_at_call 12; refine (Calls.box2 (w := w) (a := .int .i64 a1) (b := .int .i64 a2) ?_ (HR.out _)).mono ?_; (simp [*]); rintro e w' ⟨rfl, hc0, hc1, hgr⟩) | (go_at_call 8; refine (Calls.box2 (w := w) (a := .int .i64 a1) (b := .int .i64 a2) ?_ (sure_any _)).mono ?_; (simp [*]); rintro e w' ⟨rfl, hc0, hc1, hgr⟩))
  go_wp2
  go_ret
  exact ⟨rfl, hgr.1⟩

set_option maxRecDepth 100000 in
theorem sets_lifted (os : Os) (started : os.Started) (H : Type) (enc : TypeId × Value → H) :
    ReturnsInHanded {} Try.checked os 5 .any (Rows.wordSetsSpec.pre6 enc Try.prog Try.f5 Rows.wordSetsRow.domain false) (Rows.wordSetsSpec.post enc Try.prog Try.f5 false true false false) := by
  refine returnsInHanded_of_change (C := Try.checked) own started (by kernel_rfl) Try.func5
    (ChangeSpec.witness6 (enc := enc) (C := Try.checked) false ⟨#[], #[.int .u32 0, .agg #[.int .i64 0, .int .i64 0], .int .u32 0], []⟩ 8 (by kernel_rfl) (by kernel_rfl) (by kernel_rfl) (by kernel_rfl)) ?_
  intro W base args ds gs before hval0 hW hcnd _
  have hval : ∀ (j : Nat) t v, Try.f5.params[j]? = some t → args[j]? = some v → Value.okWide Try.prog W .any base t v := hval0
  have hW' := hW
  obtain ⟨p, q, hA0, hV, rfl, hfz, hnd⟩ := hW
  have hA : DataW.TrodAll enc Try.prog W 0 (fun _ => true) true Try.f5.params.toList args.toList ds p := hA0
  rw [Try.params5] at hA hval
  obtain ⟨v0, vs0, d0, ds0, p0, q0, hargs, rfl, rfl, h0, r0⟩ := trodAll_cons hA
  obtain ⟨v1, vs1, d1, ds1, p1, q1, rfl, rfl, rfl, h1, r1⟩ := trodAll_cons r0
  obtain ⟨v2, vs2, d2, ds2, p2, q2, rfl, rfl, rfl, h2, r2⟩ := trodAll_cons r1
  obtain ⟨rfl, rfl, rfl⟩ := trodAll_nil r2
  obtain rfl : args = #[v0, v1, v2] := by cases args; simp_all
  obtain ⟨rfl, rfl⟩ := trodVars_none hV
  obtain ⟨a0, rfl, rfl, rfl, w0⟩ := open_int Try.underlying22 (hval 0 22 v0 rfl rfl) h0
  have lt1 : ∀ x ∈ p1, x.block < W.heap.size := by obtain ⟨m, hm⟩ := h1; exact DataW.trod_lt m _ _ _ hm
  obtain ⟨z0, z1, rfl, hz0, hz1⟩ := open_array2 Try.underlying28 Try.underlying3 (by kernel_rfl) (by kernel_rfl) (hval 1 28 v1 rfl rfl) h1
  obtain ⟨a2, rfl, rfl, rfl, w2⟩ := open_int Try.underlying22 (hval 2 22 v2 rfl rfl) h2
  clear hA0 hval0
  refine (sets_walk a0 z0 z1 a2 w0 hz0 hz1 w2 W).mono fun e W' ⟨he, bel⟩ => ?_
  subst he
  exact ⟨_, rfl, _, _, _, [], _, [], hW', trodAll_mk1 (shut_bool Try.underlying4 _), (trodAll_cons_mk (shut_int Try.underlying22 w0) (trodAll_cons_mk (Below.trod laidOut (by kernel_rfl) (of_decide_eq_true (by kernel_rfl)) h1 bel lt1) (trodAll_cons_mk (shut_int Try.underlying22 w2) trodAll_mk0))), rfl, bel.frame _, fun h => by cases h⟩

theorem sets_over : Rows.wordSetsRow.holds Try.pinned (OpenSpec.ofChange Rows.wordSetsSpec) :=
  OpenClaim.holds_of_wide 5 Try.f5 rfl rfl rfl rfl rfl rfl rfl ⟨rfl, rfl, rfl, rfl, rfl⟩ rfl rfl rfl rfl rfl (by kernel_rfl) Try.func5 (by kernel_rfl)
    (of_decide_eq_true (by kernel_rfl)) (by unfold Func.isWrapper; first | (rw [if_pos (by decide +kernel)]; kernel_rfl) | (rw [if_neg (by decide +kernel)]; exact ⟨rfl, rfl⟩))
    (fun os started H enc _ => sets_lifted os started H enc)

theorem wordSets_proved : Rows.WordSetsSaid := sets_over
#print axioms wordSets_proved
end Go.Proofs.Ytcgnkkkeoeoenaa
