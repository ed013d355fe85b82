/-
  AsmLines: a program of the texts of any instructions, line by line, is their words, whatever notes and lines of nothing stand between; what must come whatever the input is comes; the arguments stay. The one condition: the listed variables read as the program's text lays them, to which the card ties them.
-/
import Derived.Test.YthfcodiplmodaaaGreatDoorAsLinesW
import Derived.Test.YthfcodiplmodaaaGreatDoorAsLaid
import Derived.Test.YthfcodiplmodaaaGreatDoorFlatRows
namespace Go.Proofs.YthfcodiplmodaaaGreatDoor
open Go.ChangeShapes Go.WideShapes Go.ChangeAt Go.RowKit
set_option linter.unusedVariables false

theorem laidOut : laidOutB Tryz.prog = true := by kernel_rfl

theorem asAt_lines {W : World} (h : laidMetH Tryz.prog Rows.asmLinesRow.laid W) (hs : W.ShapedOpen Tryz.prog) : AsAt W := by
  rw [MakeChecks.laidMetH_plain _ _ _ (by kernel_rfl)] at h
  exact asAt_of_laid h hs (by simp [Rows.asmLinesRow]) (by simp [Rows.asmLinesRow]) (by simp [Rows.asmLinesRow]) (by simp [Rows.asmLinesRow]) (by simp [Rows.asmLinesRow]) (by simp [Rows.asmLinesRow]) (by simp [Rows.asmLinesRow]) (by simp [Rows.asmLinesRow])

set_option maxRecDepth 100000 in
theorem open_insts {H : Type} {enc : TypeId × Value → H} {W : World} {base : Nat} {spare : Nat → Bool} {held : Bool} {a : Option Addr} {len cap : Nat} {d : DataW H} {p : List MemPlace}
    (h : DataW.Trod enc Tryz.prog W base spare held 46 (.slice a len cap) d p) : ∃ f : Nat → I6, len ≤ 9223372036854775807 ∧ InstsAt a len f W := by
  obtain ⟨h1, h2, g, hg⟩ := open_rows (ks := [.i64, .i64, .i64, .i64, .i64, .i64]) Tryz.underlying46 Tryz.underlying23 (by kernel_rfl) (by decide) (by
    intro i f hf
    match i, hf with
    | 0, hf => cases hf; exact ⟨Tryz.underlying3, by kernel_rfl, rfl⟩
    | 1, hf => cases hf; exact ⟨Tryz.underlying3, by kernel_rfl, rfl⟩
    | 2, hf => cases hf; exact ⟨Tryz.underlying3, by kernel_rfl, rfl⟩
    | 3, hf => cases hf; exact ⟨Tryz.underlying3, by kernel_rfl, rfl⟩
    | 4, hf => cases hf; exact ⟨Tryz.underlying3, by kernel_rfl, rfl⟩
    | 5, hf => cases hf; exact ⟨Tryz.underlying3, by kernel_rfl, rfl⟩
    | n + 6, hf => simp at hf) h
  refine ⟨fun j => ⟨g j 0, g j 1, g j 2, g j 3, g j 4, g j 5⟩, by unfold maxLen at h2; omega, fun j hj => ?_⟩
  obtain ⟨⟨b, o, e, hc⟩, _⟩ := hg j hj
  refine ⟨b, o, e, fun t u hu => ?_⟩
  match t, hu with
  | 0, hu => cases hu; exact hc 0 (by decide)
  | 1, hu => cases hu; exact hc 1 (by decide)
  | 2, hu => cases hu; exact hc 2 (by decide)
  | 3, hu => cases hu; exact hc 3 (by decide)
  | 4, hu => cases hu; exact hc 4 (by decide)
  | 5, hu => cases hu; exact hc 5 (by decide)
  | n + 6, hu => simp [I6.cells] at hu
theorem open_nums {H : Type} {enc : TypeId × Value → H} {W : World} {base : Nat} {held : Bool} {a : Option Addr} {len cap : Nat} {d : DataW H} {p : List MemPlace}
    (h : DataW.Trod enc Tryz.prog W base (fun _ => true) held 47 (.slice a len cap) d p) : ∃ f : Nat → Int, len ≤ 9223372036854775807 ∧ NumsAt a len f W := by
  obtain ⟨fuel, hf⟩ := h
  rcases open_ints Tryz.underlying47 Tryz.underlying3 (by kernel_rfl) hf with ⟨hcs, _⟩ | ⟨x, l, c, zs, hcs, _, hl, hm, hz, hx, hcell, hwz⟩
  · simp [Value.cells] at hcs
    obtain ⟨rfl, rfl, rfl⟩ := hcs
    exact ⟨fun _ => 0, by omega, fun j hj => absurd hj (by omega)⟩
  · simp [Value.cells] at hcs
    obtain ⟨rfl, rfl, rfl⟩ := hcs
    simp only [if_true] at hz
    refine ⟨fun j => zs.getD j 0, by unfold maxLen at hm; omega, fun j hj => ?_⟩
    have hc0 := hcell 0 (by omega)
    obtain ⟨b, off, spot⟩ := x
    have hspot : spot = none := by simpa [Addr.add] using World.cell?_spot hc0
    subst hspot
    refine ⟨b, off, rfl, ?_⟩
    have := hcell j (by omega)
    rwa [show (⟨b, off, none⟩ : Addr).add j = ⟨b, off + j, none⟩ from by simp [Addr.add]] at this

set_option maxRecDepth 100000 in
theorem asmLines_lifted (os : Os) (started : os.Started) (H : Type) (enc : TypeId × Value → H) :
    ReturnsInHanded {} Tryz.checked os 7 .any (fun w args => (Rows.asmLinesSpec.pre enc Tryz.prog Tryz.f7 [] false w args ∧ laidMetH Tryz.prog Rows.asmLinesRow.laid w) ∧ sizedMet enc Tryz.prog Tryz.f7 (OpenSpec.ofChange Rows.asmLinesSpec) false w args)
      (Rows.asmLinesSpec.post enc Tryz.prog Tryz.f7 false true false false) := by
  refine wrap_shaped (C := Tryz.checked) (X := fun w _ => laidMetH Tryz.prog Rows.asmLinesRow.laid w) (fun _ _ _ hh h => h.of_heap hh) own started (by kernel_rfl) Tryz.func7
    (ChangeSpec.witness_shaped (enc := enc) (C := Tryz.checked) (os := os) (X := fun w _ => laidMetH Tryz.prog Rows.asmLinesRow.laid w) false (World.laidAll Tryz.prog os Rows.asmLinesRow.laid) #[.slice none 0 0, .slice none 0 0] 8 (World.laidAll_os _ _ _)
      (World.shaped_of_ZipB (by kernel_rfl) (by kernel_rfl)) (by kernel_rfl) (by kernel_rfl) (by kernel_rfl)
      (by rw [MakeChecks.laidMetH_plain _ _ _ (by kernel_rfl)]; exact laidMet_laidAll _ (by kernel_rfl) (by kernel_rfl))) ?_
  intro W base args ds gs before hval0 hW hL hS
  have hval : ∀ (j : Nat) t v, Tryz.f7.params[j]? = some t → args[j]? = some v → Value.okWide Tryz.prog W .any base t v := hval0
  have hW' := hW
  obtain ⟨p, q, hA0, hV, rfl, hfz, hnd⟩ := hW
  have hA : DataW.TrodAll enc Tryz.prog W 0 (fun _ => true) true Tryz.f7.params.toList args.toList ds p := hA0
  rw [Tryz.params7] at hA hval
  obtain ⟨v0, vs0, d0, ds0, p0, q0, hargs, rfl, rfl, h0, r0⟩ := trodAll_cons hA
  obtain ⟨v1, vs1, d1, ds1, p1, q1, rfl, rfl, rfl, h1, r1⟩ := trodAll_cons r0
  obtain ⟨rfl, rfl, rfl⟩ := trodAll_nil r1
  obtain rfl : args = #[v0, v1] := by cases args; simp_all
  obtain ⟨rfl, rfl⟩ := trodVars_none hV
  obtain ⟨a0, len0, cap0, rfl⟩ := okWide_slice Tryz.underlying46 (hval 0 46 v0 rfl rfl)
  obtain ⟨a1, len1, cap1, rfl⟩ := okWide_slice Tryz.underlying47 (hval 1 47 v1 rfl rfl)
  have lt0 : ∀ x ∈ p0, x.block < W.heap.size := by obtain ⟨m, hm⟩ := h0; exact DataW.trod_lt m _ _ _ hm
  have lt1 : ∀ x ∈ p1, x.block < W.heap.size := by obtain ⟨m, hm⟩ := h1; exact DataW.trod_lt m _ _ _ hm
  obtain ⟨f, hl0, hI⟩ := open_insts h0
  obtain ⟨z, hl1, hZ⟩ := open_nums h1
  clear hA0 hval0
  refine (lines_walk a0 a1 len0 cap0 len1 cap1 hl0 hl1 f z W hI hZ (asAt_lines hL hS)).mono fun e W' ⟨he, bel⟩ => ?_
  subst he
  exact ⟨_, rfl, _, _, _, [], _, [], hW', trodAll_mk1 (shut_bool Tryz.underlying4 _), (trodAll_cons_mk (Below.trod laidOut (by kernel_rfl) (of_decide_eq_true (by kernel_rfl)) h0 bel lt0) (trodAll_cons_mk (Below.trod laidOut (by kernel_rfl) (of_decide_eq_true (by kernel_rfl)) h1 bel lt1) trodAll_mk0)), rfl, bel.frame _, fun h => by cases h⟩

theorem asmLines_over : Rows.AsmLinesSaid :=
  OpenClaim.holds_of_wide 7 Tryz.f7 rfl rfl rfl rfl rfl rfl rfl ⟨rfl, rfl, rfl, rfl, rfl⟩ rfl rfl rfl rfl rfl (by kernel_rfl) Tryz.func7 (by kernel_rfl)
    (of_decide_eq_true (by kernel_rfl)) (by unfold Func.isWrapper; first | (rw [if_pos (by decide +kernel)]; kernel_rfl) | (rw [if_neg (by decide +kernel)]; exact ⟨rfl, rfl⟩))
    (fun os started H enc _ => asmLines_lifted os started H enc)

theorem asmLines_proved : Rows.AsmLinesCardSaid :=
  Claim7.holds_tied_plain_at .later [] [.data, .data, .data, .data, .sentinel, .sentinel, .data, .data, .data, .pinned] true (true, "008fa0dc7819a8aaae1f0985ab1f82f03eec4d87b3d58ff688b1bbda672f1d5f") true
    asmLines_over (fun _ h => by cases h) (by kernel_rfl) (fun _ h => by cases h) asmLines_row_tie rfl ⟨rfl, rfl⟩ (by kernel_rfl) rfl
    (fun f fn hf hfn => by
      obtain rfl : f = 7 := Option.some.inj ((show Tryz.prog.funcNamed Rows.asmLinesRow.func = some 7 by kernel_rfl).symm.trans hf) |>.symm
      obtain rfl : fn = Tryz.f7 := (Option.some.inj (Tryz.func7.symm.trans hfn)).symm
      exact ⟨by kernel_rfl, fun j t ht => by
        rw [Tryz.params7] at ht
        have hm : t ∈ [46, 47] := by simpa using Array.mem_of_getElem? ht
        have hall : ([46, 47].all fun u => !Tryz.prog.wantsStandIn u) = true := by kernel_rfl
        exact (show Tryz.prog.wantsStandIn t = false by simpa using List.all_eq_true.1 hall t hm)⟩)
    (by kernel_rfl)
#print axioms asmLines_proved
end Go.Proofs.YthfcodiplmodaaaGreatDoor
