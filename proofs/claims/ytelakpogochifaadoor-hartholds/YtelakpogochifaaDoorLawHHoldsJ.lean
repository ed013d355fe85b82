/-
  HartHolds: every hart that may be stays one, whatever instructions it does, whatever lines ask, and whatever memory answers; what it asks for lies where it may; what must come whatever the input is comes; the arguments stay. The conditions: csr's order of the lines, inst's kinds and words, hart's operations on numbers and widths read as the program's text lays them, to which the card ties them.
-/
import Derived.Test.YtelakpogochifaaDoorHaOpen
import Derived.ChangeSlices
import Derived.Test.YtelakpogochifaaDoorHaLaid
import Derived.Test.YtelakpogochifaaDoorHCsAsks
import Derived.Test.YtelakpogochifaaDoorTabs
import Derived.Test.YtelakpogochifaaDoorTie
import Derived.Test.YtelakpogochifaaDoorCards
import Derived.LaidHandle
import Derived.Stop.Joined
import Derived.SevenTiedAt
import Derived.SizedLaws
import Derived.Test.YtelakpogochifaaDoorHaHoldW
namespace Go.Proofs.YtelakpogochifaaDoor
open Go.ChangeShapes Go.WideShapes Go.ChangeAt Go.RowKit
set_option linter.unusedVariables false

theorem open_words {H' : Type} {enc : TypeId × Value → H'} {P : Program} {W : World} {held : Bool} {base : Nat} {t e : TypeId} {a : Option Addr} {len cap : Nat} {d : DataW H'} {p : List MemPlace}
    (ht : P.underlying t = some (.slice e)) (he : P.underlying e = some (.int .u32)) (hce : P.cellsOf e = 1) (h : DataW.Trod enc P W base (fun _ => true) held t (.slice a len cap) d p) :
    len ≤ 9223372036854775807 ∧ ∀ j, j < len → ∃ b o v : Nat, a = some ⟨b, o, none⟩ ∧ W.cell? ⟨b, o + j, none⟩ = some (.int .u32 (v : Nat)) ∧ v < 4294967296 := by
  obtain ⟨fuel, hf⟩ := h
  rcases open_ints ht he hce hf with ⟨hcs, _⟩ | ⟨x, l, c, zs, hcs, _, hl, hm, hz, hx, hcell, hwz⟩
  · simp [Value.cells] at hcs
    obtain ⟨rfl, rfl, rfl⟩ := hcs
    exact ⟨by decide, fun j hj => absurd hj (by omega)⟩
  · simp [Value.cells] at hcs
    obtain ⟨rfl, rfl, rfl⟩ := hcs
    simp only [if_true] at hz
    have hcap : cap ≤ 9223372036854775807 := hm
    refine ⟨by omega, fun j hj => ?_⟩
    obtain ⟨b, off, spot⟩ := x
    have hc := hcell 0 (by omega)
    have hspot : spot = none := by simpa [Addr.add] using World.cell?_spot hc
    subst hspot
    have hj' : j < zs.length := by omega
    have h1 := hcell j hj'
    obtain ⟨n, hn, hb⟩ := bounds_w (hwz (zs.getD j 0) (by rw [List.getD_eq_getElem?_getD, List.getElem?_eq_getElem hj']; simp))
    rw [hn, Addr.add_mid] at h1
    exact ⟨b, off, n, rfl, h1, hb⟩
end Go.Proofs.YtelakpogochifaaDoor
namespace Go.Proofs.YtelakpogochifaaDoor
open Go.ChangeShapes Go.WideShapes Go.ChangeAt Go.RowKit
set_option linter.unusedVariables false

def orderL : List Nat := [11, 3, 7]
theorem gOrder : Tryd.prog.globalNamed "pinnace/csr.order" = some 4 := by kernel_rfl
theorem tOrder : (Tryd.prog.globals[4]?).map (·.type) = some 126 := by kernel_rfl
theorem dOrder : (Rows.laid_pinnace_csr_order : DataW Unit) = .agg (orderL.map fun x : Nat => .lit (.int .u32 (x : Int))) := rfl

abbrev laid5 : List (String × DataW Unit) := [("pinnace/csr.order", Rows.laid_pinnace_csr_order), ("pinnace/inst.kinds", Rows.laid_pinnace_inst_kinds), ("pinnace/inst.words", Rows.laid_pinnace_inst_words), ("pinnace/hart.onNumbers", Rows.laid_pinnace_hart_onNumbers), ("pinnace/hart.widths", Rows.laid_pinnace_hart_widths)]

theorem hart5_of_laid {W : World} (h0 : laidMetH Tryd.prog laid5 W) : HartAt W ∧ OrderAt W := by
  have h := h0
  rw [MakeChecks.laidMetH_plain _ _ _ (by kernel_rfl)] at h
  obtain ⟨ps, ⟨gO, tO, csO, fO, pO, qO, hgo, hto, hvo, hdo, ⟨g0, t0, cs0, f0, p0, q0, hg0, ht0, hv0, hd0, ⟨g1, t1, cs1, f1, p1, q1, hg1, ht1, hv1, hd1, ⟨g2, t2, cs2, f2, p2, q2, hg2, ht2, hv2, hd2, ⟨g3, t3, cs3, f3, p3, q3, hg3, ht3, hv3, hd3, _, _⟩, _⟩, _⟩, _⟩, _⟩, _, _⟩ := h
  obtain rfl := Option.some.inj (gOrder.symm.trans hgo)
  obtain rfl := Option.some.inj (tOrder.symm.trans hto)
  obtain rfl := Option.some.inj (gKinds.symm.trans hg0)
  obtain rfl := Option.some.inj (gWords.symm.trans hg1)
  obtain rfl := Option.some.inj (gOns.symm.trans hg2)
  obtain rfl := Option.some.inj (gWids.symm.trans hg3)
  obtain rfl := Option.some.inj (tKinds.symm.trans ht0)
  obtain rfl := Option.some.inj (tWords.symm.trans ht1)
  obtain rfl := Option.some.inj (tOns.symm.trans ht2)
  obtain rfl := Option.some.inj (tWids.symm.trans ht3)
  rw [dOrder] at hdo
  rw [dKinds] at hd0
  rw [dWords] at hd1
  rw [dOns] at hd2
  rw [dWids] at hd3
  have hto := tab_int hgo hvo Tryd.underlying126 Tryd.underlying22 (by kernel_rfl) (by kernel_rfl) rfl hdo
  refine ⟨⟨tab_int hg0 hv0 Tryd.underlying98 Tryd.underlying5 (by kernel_rfl) (by kernel_rfl) rfl hd0, tab_int hg1 hv1 Tryd.underlying99 Tryd.underlying22 (by kernel_rfl) (by kernel_rfl) rfl hd1, tab_int hg2 hv2 Tryd.underlying111 Tryd.underlying3 (by kernel_rfl) (by kernel_rfl) rfl hd2, fun j hj => ?_⟩, hto 0 (by decide), hto 1 (by decide), hto 2 (by decide)⟩
  have := tab_int hg3 hv3 Tryd.underlying103 Tryd.underlying3 (by kernel_rfl) (by kernel_rfl) rfl hd3 j hj
  rw [widN_at j hj] at this
  exact this

theorem door5 (os : Os) (args : Array Value) : laidMetH Tryd.prog laid5 ((World.doorLaid Tryd.prog 600 os).forCall (fun _ _ => 0) ⟨#[], args, []⟩).memory :=
  laidMetH_of_parts3 (fuel := 8) (laidMet_of_run' 8 (by kernel_rfl) (by kernel_rfl)) (by kernel_rfl) (by kernel_rfl)
end Go.Proofs.YtelakpogochifaaDoor
namespace Go.Proofs.YtelakpogochifaaDoor
open Go.ChangeShapes Go.WideShapes Go.ChangeAt Go.RowKit
set_option linter.unusedVariables false

theorem holds_at (h : H) (ok : h.Ok) (p1 p2 : Option Addr) (n1 c1 n2 c2 : Nat) (hn1 : n1 ≤ 9223372036854775807) (hn2 : n2 ≤ 9223372036854775807) (w : World) (hA : HartAt w ∧ OrderAt w)
    (H1 : ∀ j, j < n1 → ∃ b o v : Nat, p1 = some ⟨b, o, none⟩ ∧ w.cell? ⟨b, o + j, none⟩ = some (.int .u32 (v : Nat)) ∧ v < 4294967296)
    (H2 : ∀ j, j < n2 → ∃ b o v : Nat, p2 = some ⟨b, o, none⟩ ∧ w.cell? ⟨b, o + j, none⟩ = some (.int .u32 (v : Nat)) ∧ v < 4294967296) :
    Calls Tryd.prog 5 #[.agg h.cells, .slice p1 n1 c1, .slice p2 n2 c2] w fun e w' => e = .returned (.bool true) ∧ Below w.heap.size w w' := by
  cases hm : mayH h with
  | false => exact holds_no h ok p1 p2 n1 c1 n2 c2 hm w hA.1
  | true => exact holds_yes h ok p1 p2 n1 c1 n2 c2 hn1 hn2 hm w hA.1 hA.2 (hide H1) (hide H2)

set_option maxRecDepth 100000 in
theorem hartHolds_lifted (os : Os) (started : os.Started) (H : Type) (enc : TypeId × Value → H) :
    ReturnsInHanded {} Tryd.checked os 5 .any (fun w args => (Rows.hartHoldsSpec.pre enc Tryd.prog Tryd.f5 [] false w args ∧ laidMetH Tryd.prog laid5 w) ∧ sizedMet enc Tryd.prog Tryd.f5 (OpenSpec.ofChange Rows.hartHoldsSpec) false w args)
      (Rows.hartHoldsSpec.post enc Tryd.prog Tryd.f5 false true false false) := by
  refine returnsInHanded_of_change_and (C := Tryd.checked) (X := fun w _ => laidMetH Tryd.prog laid5 w) (fun _ _ _ hh h => h.of_heap hh) own started (by kernel_rfl) Tryd.func5
    (ChangeSpec.witness_shaped (enc := enc) (C := Tryd.checked) (os := os) (X := fun w _ => laidMetH Tryd.prog laid5 w) false (World.doorLaid Tryd.prog 600 os) #[.agg #[.int .u32 0, .int .u32 0, .int .u32 0, .int .u32 0, .int .u32 0, .int .u32 0, .int .u32 0, .int .u32 0, .int .u32 0, .int .u32 0, .int .u32 0, .int .u32 0, .int .u32 0, .int .u32 0, .int .u32 0, .int .u32 0, .int .u32 0, .int .u32 0, .int .u32 0, .int .u32 0, .int .u32 0, .int .u32 0, .int .u32 0, .int .u32 0, .int .u32 0, .int .u32 0, .int .u32 0, .int .u32 0, .int .u32 0, .int .u32 0, .int .u32 0, .int .u32 0, .int .u32 0, .bool false, .int .u32 0, .int .u32 0, .int .u32 0, .int .u32 0, .int .u32 0, .int .u32 0, .int .u32 0, .int .u64 0], .slice none 0 0, .slice none 0 0] 8 rfl (World.shaped_of_RefB (by kernel_rfl) (by kernel_rfl)) (by kernel_rfl) (by kernel_rfl) (by kernel_rfl) (door5 os _)) ?_
  intro W base args ds gs before hval0 hW _ _ hL _
  have hval : ∀ (j : Nat) t v, Tryd.f5.params[j]? = some t → args[j]? = some v → Value.okWide Tryd.prog W .any base t v := hval0
  have hW' := hW
  obtain ⟨p, q, hA0, hV, rfl, hfz, hnd⟩ := hW
  have hA : DataW.TrodAll enc Tryd.prog W 0 (fun _ => true) true Tryd.f5.params.toList args.toList ds p := hA0
  rw [Tryd.params5] at hA hval
  obtain ⟨v0, vs0, d0, ds0, p0, q0, hargs, rfl, rfl, h0, r0⟩ := trodAll_cons hA
  obtain ⟨v1, vs1, d1, ds1, p1, q1, rfl, rfl, rfl, h1, r1⟩ := trodAll_cons r0
  obtain ⟨v2, vs2, d2, ds2, p2, q2, rfl, rfl, rfl, h2, r2⟩ := trodAll_cons r1
  obtain ⟨rfl, rfl, rfl⟩ := trodAll_nil r2
  obtain rfl : args = #[v0, v1, v2] := by cases args; simp_all
  obtain ⟨rfl, rfl⟩ := trodVars_none hV
  have lt0 : ∀ x ∈ p0, x.block < W.heap.size := by obtain ⟨m, hm⟩ := h0; exact DataW.trod_lt m _ _ _ hm
  obtain ⟨i0, hi0, rfl⟩ := open_hart (hval 0 28 v0 rfl rfl) h0
  obtain ⟨s1, len1, cap1, rfl⟩ := okWide_slice Tryd.underlying53 (hval 1 53 v1 rfl rfl)
  have lt1 : ∀ x ∈ p1, x.block < W.heap.size := by obtain ⟨m, hm⟩ := h1; exact DataW.trod_lt m _ _ _ hm
  obtain ⟨ml1, g1⟩ := open_words Tryd.underlying53 Tryd.underlying22 (by kernel_rfl) h1
  obtain ⟨s2, len2, cap2, rfl⟩ := okWide_slice Tryd.underlying53 (hval 2 53 v2 rfl rfl)
  have lt2 : ∀ x ∈ p2, x.block < W.heap.size := by obtain ⟨m, hm⟩ := h2; exact DataW.trod_lt m _ _ _ hm
  obtain ⟨ml2, g2⟩ := open_words Tryd.underlying53 Tryd.underlying22 (by kernel_rfl) h2
  clear hA0 hval0
  refine (holds_at i0 hi0 _ _ _ _ _ _ ml1 ml2 W (hart5_of_laid hL) g1 g2).mono fun e W' ⟨he, bel⟩ => ?_
  subst he
  exact ⟨_, rfl, _, _, _, [], _, [], hW', trodAll_mk1 (shut_bool Tryd.underlying4 _), (trodAll_cons_mk (Below.trod laidOut (by kernel_rfl) (of_decide_eq_true (by kernel_rfl)) h0 bel lt0) (trodAll_cons_mk (Below.trod laidOut (by kernel_rfl) (of_decide_eq_true (by kernel_rfl)) h1 bel lt1) (trodAll_cons_mk (Below.trod laidOut (by kernel_rfl) (of_decide_eq_true (by kernel_rfl)) h2 bel lt2) trodAll_mk0))), rfl, bel.frame _, fun h => by cases h⟩

theorem hartHolds_over : Rows.HartHoldsSaid :=
  OpenClaim.holds_of_wide 5 Tryd.f5 rfl rfl rfl rfl rfl rfl rfl ⟨rfl, rfl, rfl, rfl, rfl⟩ rfl rfl rfl rfl rfl (by kernel_rfl) Tryd.func5 (by kernel_rfl)
    (of_decide_eq_true (by kernel_rfl)) (by unfold Func.isWrapper; first | (rw [if_pos (by decide +kernel)]; kernel_rfl) | (rw [if_neg (by decide +kernel)]; exact ⟨rfl, rfl⟩))
    (fun os started H enc _ => hartHolds_lifted os started H enc)

theorem hartHolds_proved : Rows.HartHoldsCardSaid :=
  Claim7.holds_tied_plain_at .later [] [.data, .data, .data, .data, .data] true (true, "9b8d3b12b0cf3918b4e2dc8ef2e603fbca73158cf774431451e5baba7a0cac7b") true
    hartHolds_over (fun _ h => by cases h) (by kernel_rfl) (fun _ h => by cases h) hartHolds_row_tie rfl ⟨rfl, rfl⟩ (by kernel_rfl) rfl
    (fun f fn hf hfn => by
      obtain rfl : f = 5 := Option.some.inj ((show Tryd.prog.funcNamed Rows.hartHoldsRow.func = some 5 by kernel_rfl).symm.trans hf) |>.symm
      obtain rfl : fn = Tryd.f5 := (Option.some.inj (Tryd.func5.symm.trans hfn)).symm
      exact ⟨by kernel_rfl, fun j t ht => by
        rw [Tryd.params5] at ht
        have hm : t ∈ [28, 53, 53] := by simpa using Array.mem_of_getElem? ht
        have hall : ([28, 53, 53].all fun u => !Tryd.prog.wantsStandIn u) = true := by kernel_rfl
        exact (show Tryd.prog.wantsStandIn t = false by simpa using List.all_eq_true.1 hall t hm)⟩)
    (by kernel_rfl)
#print axioms hartHolds_proved
end Go.Proofs.YtelakpogochifaaDoor
