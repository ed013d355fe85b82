/-
  AluWhole: for every two words, with signs or without: of a word that is not 0 quotient times divisor and rest are the dividend, the rest is nearer to 0 than the divisor, and the product is the same both ways round; by 0 all bits and the dividend come; what must come whatever the input is comes; the arguments stay. No condition.
-/
import Derived.Test.YtcojghmanpcedaaAluRW
import Derived.Test.YtcojghmanpcedaaAluSure
import Derived.ProofKit
import Derived.OpenShut
import Derived.ChangeOld
import Derived.Below
namespace Go.Proofs.Ytcojghmanpcedaa
open Go.ChangeShapes Go.WideShapes Go.ChangeAt Go.RowKit
set_option linter.unusedVariables false

theorem own : ownKnob Try.prog.godebug = none := by kernel_rfl

set_option maxHeartbeats 400000 in
theorem whole_zero (a : Nat) (ha : a < 4294967296) (s : Bool) (w : World) :
    Calls Try.prog 5 #[.int .u32 a, .int .u32 0, .bool s] w fun e w' => e = .returned (.bool true) ∧ Below w.heap.size w w' := by
  have HP := hide (parts_zero a ha s)
  have HS := hide sure_any
  go_enter Try.func5, Try.ntmps5
  go_wp2_with (first | (go_at_call 10; refine (HP.out _).mono ?_; rintro e w1 ⟨rfl, n, rfl⟩) | (go_at_call 9; refine (HS.out _).mono ?_; rintro e w3 ⟨rfl, m, rfl⟩))
  go_ret
  exact ⟨rfl, below_drewN (Below.refl _ _) _⟩

set_option maxHeartbeats 1000000 in
theorem whole_true (a b : Nat) (ha : a < 4294967296) (hb : b < 4294967296) (h0 : 1 ≤ b) (w : World) :
    Calls Try.prog 5 #[.int .u32 a, .int .u32 b, .bool true] w fun e w' => e = .returned (.bool true) ∧ Below w.heap.size w w' := by
  have HP := hide (parts_any a b ha hb true)
  have HS := hide sure_any
  have HG := hide (fun (v : Nat) (hv : v < 4294967296) (x : Int) (hx : sgn v = x) (w : World) => (hx ▸ signed_any v hv w : Calls Try.prog 12 #[.int .u32 v] w fun e w' => e = .returned (.int .i64 x) ∧ w' = w))
  have HW := hide (fun (a b : Nat) (ha : a < 4294967296) (hb : b < 4294967296) (sa sb : Bool) (H L : Nat) (eH : hiN a b sa sb = H) (eL : loN a b sa sb = L) (w : World) => (eH ▸ eL ▸ wide_any a b ha hb sa sb w : Calls Try.prog 7 #[.int .u32 a, .int .u32 b, .bool sa, .bool sb] w fun e w' => e = .returned (.tuple #[.int .u32 (H : Nat), .int .u32 (L : Nat)]) ∧ w' = w))
  have hq := quoN_lt a b true
  have hr := remN_lt a b true ha
  have hwh := whole a b true ha hb (by omega)
  have hn := nearer a b true ha hb (by omega)
  have hc : prodN b a true true = prodN a b true true := prodN_comm b a true true
  obtain ⟨H, eH1⟩ : ∃ H, hiN a b true true = H := ⟨_, rfl⟩
  obtain ⟨L, eL1⟩ : ∃ L, loN a b true true = L := ⟨_, rfl⟩
  have eH2 : hiN b a true true = H := by rw [← eH1]; unfold hiN; rw [hc]
  have eL2 : loN b a true true = L := by rw [← eL1]; unfold loN; rw [hc]
  clear hc
  generalize quoN a b true = q at *
  generalize remN a b true = r at *
  obtain ⟨x, hx⟩ : ∃ x, sgn r = x := ⟨_, rfl⟩
  obtain ⟨y, hy⟩ : ∃ y, sgn b = y := ⟨_, rfl⟩
  have hne : (((q : Int) * (b : Int) + (r : Int)) % 4294967296 != (a : Int)) = false := by
    have : ((q : Int) * (b : Int) + (r : Int)) % 4294967296 = (a : Int) := by rw [← hwh]; simp
    rw [this]; simp
  have s1 := sgn_lo r hr
  have s2 := sgn_hi r hr
  have s3 := sgn_lo b hb
  have s4 := sgn_hi b hb
  rw [hx] at s1 s2
  rw [hy] at s3 s4
  have e1 : asInt r true = x := hx
  have e2 : asInt b true = y := hy
  rw [e1, e2] at hn
  clear e1 e2 hwh
  have hcase : (x < 0 ∧ y < 0 ∧ -x < -y) ∨ (x < 0 ∧ 0 ≤ y ∧ -x < y) ∨ (0 ≤ x ∧ y < 0 ∧ x < -y) ∨ (0 ≤ x ∧ 0 ≤ y ∧ x < y) := by omega
  clear hn
  rcases hcase with ⟨c1, c2, c3⟩ | ⟨c1, c2, c3⟩ | ⟨c1, c2, c3⟩ | ⟨c1, c2, c3⟩
  all_goals
    go_enter Try.func5, Try.ntmps5
    go_wp2_with (first | (go_at_call 10; refine (HP.out _).mono ?_; rintro e w1 ⟨rfl, n, rfl⟩) | (go_at_call 12; refine (HG.out _ (by assumption) _ (by assumption) _).mono ?_; rintro e w2 ⟨rfl, rfl⟩) | (go_at_call 7; refine (HW.out _ _ (by assumption) (by assumption) _ _ _ _ (by assumption) (by assumption) _).mono ?_; rintro e w2 ⟨rfl, rfl⟩) | (go_at_call 9; refine (HS.out _).mono ?_; rintro e w3 ⟨rfl, m, rfl⟩))
    go_ret
    exact ⟨rfl, below_drewN (Below.refl _ _) _⟩

set_option maxHeartbeats 1000000 in
theorem whole_false (a b : Nat) (ha : a < 4294967296) (hb : b < 4294967296) (h0 : 1 ≤ b) (w : World) :
    Calls Try.prog 5 #[.int .u32 a, .int .u32 b, .bool false] w fun e w' => e = .returned (.bool true) ∧ Below w.heap.size w w' := by
  have HP := hide (parts_any a b ha hb false)
  have HS := hide sure_any
  have HG := hide (fun (v : Nat) (hv : v < 4294967296) (x : Int) (hx : sgn v = x) (w : World) => (hx ▸ signed_any v hv w : Calls Try.prog 12 #[.int .u32 v] w fun e w' => e = .returned (.int .i64 x) ∧ w' = w))
  have HW := hide (fun (a b : Nat) (ha : a < 4294967296) (hb : b < 4294967296) (sa sb : Bool) (H L : Nat) (eH : hiN a b sa sb = H) (eL : loN a b sa sb = L) (w : World) => (eH ▸ eL ▸ wide_any a b ha hb sa sb w : Calls Try.prog 7 #[.int .u32 a, .int .u32 b, .bool sa, .bool sb] w fun e w' => e = .returned (.tuple #[.int .u32 (H : Nat), .int .u32 (L : Nat)]) ∧ w' = w))
  have hq := quoN_lt a b false
  have hr := remN_lt a b false ha
  have hwh := whole a b false ha hb (by omega)
  have hn := nearer a b false ha hb (by omega)
  have hc : prodN b a false false = prodN a b false false := prodN_comm b a false false
  obtain ⟨H, eH1⟩ : ∃ H, hiN a b false false = H := ⟨_, rfl⟩
  obtain ⟨L, eL1⟩ : ∃ L, loN a b false false = L := ⟨_, rfl⟩
  have eH2 : hiN b a false false = H := by rw [← eH1]; unfold hiN; rw [hc]
  have eL2 : loN b a false false = L := by rw [← eL1]; unfold loN; rw [hc]
  clear hc
  generalize quoN a b false = q at *
  generalize remN a b false = r at *
  obtain ⟨x, hx⟩ : ∃ x, sgn r = x := ⟨_, rfl⟩
  obtain ⟨y, hy⟩ : ∃ y, sgn b = y := ⟨_, rfl⟩
  have hne : (((q : Int) * (b : Int) + (r : Int)) % 4294967296 != (a : Int)) = false := by
    have : ((q : Int) * (b : Int) + (r : Int)) % 4294967296 = (a : Int) := by rw [← hwh]; simp
    rw [this]; simp
  have s1 := sgn_lo r hr
  have s2 := sgn_hi r hr
  have s3 := sgn_lo b hb
  have s4 := sgn_hi b hb
  rw [hx] at s1 s2
  rw [hy] at s3 s4
  have hn2 : (r : Int) < (b : Int) := by
    have e1 : asInt r false = (r : Int) := rfl
    have e2 : asInt b false = (b : Int) := rfl
    rw [e1, e2] at hn
    omega
  clear hn hwh
  have hn3 : r < b := by omega
  clear s1 s2 s3 s4
  go_enter Try.func5, Try.ntmps5
  go_wp2_with (first | (go_at_call 10; refine (HP.out _).mono ?_; rintro e w1 ⟨rfl, n, rfl⟩) | (go_at_call 12; refine (HG.out _ (by assumption) _ (by assumption) _).mono ?_; rintro e w2 ⟨rfl, rfl⟩) | (go_at_call 7; refine (HW.out _ _ (by assumption) (by assumption) _ _ _ _ (by assumption) (by assumption) _).mono ?_; rintro e w2 ⟨rfl, rfl⟩) | (go_at_call 9; refine (HS.out _).mono ?_; rintro e w3 ⟨rfl, m, rfl⟩))
  go_ret
  exact ⟨rfl, below_drewN (Below.refl _ _) _⟩

theorem lwhole_walk (a0 a1 : Int) (s : Bool) (w0 : (Lit.int .u32 a0).wf = true) (w1 : (Lit.int .u32 a1).wf = true) (w : World) :
    Calls Try.prog 5 #[.int .u32 a0, .int .u32 a1, .bool s] w fun e w' => e = .returned (.bool true) ∧ Below w.heap.size w w' := by
  have hb0 := bounds_u32 w0
  have hb1 := bounds_u32 w1
  obtain ⟨a, rfl⟩ := Int.eq_ofNat_of_zero_le (show 0 ≤ a0 by omega)
  obtain ⟨b, rfl⟩ := Int.eq_ofNat_of_zero_le (show 0 ≤ a1 by omega)
  by_cases h0 : b = 0
  · subst h0
    exact whole_zero a (by omega) s w
  · cases s
    · exact whole_false a b (by omega) (by omega) (by omega) w
    · exact whole_true a b (by omega) (by omega) (by omega) w

set_option maxRecDepth 100000 in
theorem lwhole_lifted (os : Os) (started : os.Started) (H : Type) (enc : TypeId × Value → H) :
    ReturnsInHanded {} Try.checked os 5 .any (Rows.aluWholeSpec.pre6 enc Try.prog Try.f5 Rows.aluWholeRow.domain false) (Rows.aluWholeSpec.post enc Try.prog Try.f5 false true false false) := by
  refine returnsInHanded_of_change (C := Try.checked) own started (by kernel_rfl) Try.func5
    (ChangeSpec.witness6 (enc := enc) (C := Try.checked) false ⟨#[], #[.int .u32 0, .int .u32 0, .bool false], []⟩ 8 (by kernel_rfl) (by kernel_rfl) (by kernel_rfl) (by kernel_rfl)) ?_
  intro W base args ds gs before hval0 hW hcnd _
  have hval : ∀ (j : Nat) t v, Try.f5.params[j]? = some t → args[j]? = some v → Value.okWide Try.prog W .any base t v := hval0
  have hW' := hW
  obtain ⟨p, q, hA0, hV, rfl, hfz, hnd⟩ := hW
  have hA : DataW.TrodAll enc Try.prog W 0 (fun _ => true) true Try.f5.params.toList args.toList ds p := hA0
  rw [Try.params5] at hA hval
  obtain ⟨v0, vs0, d0, ds0, p0, q0, hargs, rfl, rfl, h0, r0⟩ := trodAll_cons hA
  obtain ⟨v1, vs1, d1, ds1, p1, q1, rfl, rfl, rfl, h1, r1⟩ := trodAll_cons r0
  obtain ⟨v2, vs2, d2, ds2, p2, q2, rfl, rfl, rfl, h2, r2⟩ := trodAll_cons r1
  obtain ⟨rfl, rfl, rfl⟩ := trodAll_nil r2
  obtain rfl : args = #[v0, v1, v2] := by cases args; simp_all
  obtain ⟨rfl, rfl⟩ := trodVars_none hV
  obtain ⟨a0, rfl, rfl, rfl, w0⟩ := open_int Try.underlying22 (hval 0 22 v0 rfl rfl) h0
  obtain ⟨a1, rfl, rfl, rfl, w1⟩ := open_int Try.underlying22 (hval 1 22 v1 rfl rfl) h1
  obtain ⟨a2, rfl, rfl, rfl⟩ := open_bool Try.underlying4 (hval 2 4 v2 rfl rfl) h2
  clear hA0 hval0
  refine (lwhole_walk a0 a1 a2 w0 w1 W).mono fun e W' ⟨he, bel⟩ => ?_
  subst he
  exact ⟨_, rfl, _, _, _, [], [], [], hW', trodAll_mk1 (shut_bool Try.underlying4 _), (trodAll_cons_mk (shut_int Try.underlying22 w0) (trodAll_cons_mk (shut_int Try.underlying22 w1) (trodAll_cons_mk (shut_bool Try.underlying4 _) trodAll_mk0))), rfl, bel.frame _, fun h => by cases h⟩

theorem lwhole_over : Rows.aluWholeRow.holds Try.pinned (OpenSpec.ofChange Rows.aluWholeSpec) :=
  OpenClaim.holds_of_wide 5 Try.f5 rfl rfl rfl rfl rfl rfl rfl ⟨rfl, rfl, rfl, rfl, rfl⟩ rfl rfl rfl rfl rfl (by kernel_rfl) Try.func5 (by kernel_rfl)
    (of_decide_eq_true (by kernel_rfl)) (by unfold Func.isWrapper; first | (rw [if_pos (by decide +kernel)]; kernel_rfl) | (rw [if_neg (by decide +kernel)]; exact ⟨rfl, rfl⟩))
    (fun os started H enc _ => lwhole_lifted os started H enc)

theorem aluWhole_proved : Rows.AluWholeSaid := lwhole_over
#print axioms aluWhole_proved
end Go.Proofs.Ytcojghmanpcedaa
