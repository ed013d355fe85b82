/-
  WordBits: for every word the program's Bits are the document's, and what must come whatever the input is comes; the argument stays. The one condition: math.bits' table deBruijn32tab reads as the program's text lays it, to which the card ties it.
-/
import Derived.Test.YtcgnkkkeoeoenaaDoorWordBits
import Derived.Test.YtcgnkkkeoeoenaaDoorCheck
import Derived.Test.YtcgnkkkeoeoenaaDoorTie
import Derived.Test.YtcgnkkkeoeoenaaDoorCards
import Derived.ProofKit
import Derived.OpenShut
import Derived.LaidMore
import Derived.LaidLaws
import Derived.LaidHandle
import Derived.Stop.Joined
import Derived.SevenTiedAt
namespace Go.Proofs.YtcgnkkkeoeoenaaDoor
open Go.ChangeShapes Go.WideShapes Go.ChangeAt Go.RowKit
set_option linter.unusedVariables false

theorem own : ownKnob Tryd.prog.godebug = none := by kernel_rfl
theorem gTab : Tryd.prog.globalNamed (Rows.wordBitsRow.named.headD "") = some 1 := by kernel_rfl
theorem tTab : (Tryd.prog.globals[1]?).map (·.type) = some 68 := by kernel_rfl

set_option maxHeartbeats 1000000 in
theorem bitslaw_walk (a0 : Int) (w0 : (Lit.int .u32 a0).wf = true) (w : World) (hT : TabAt w) :
    Calls Tryd.prog 5 #[.int .u32 a0] w fun e w' => e = .returned (.bool true) ∧ Below w.heap.size w w' := by
  have hb := bounds_u32 w0
  obtain ⟨v, rfl⟩ := Int.eq_ofNat_of_zero_le (show 0 ≤ a0 by omega)
  have hv : v < 4294967296 := by omega
  have HB := hide (bits_any v hv w hT)
  have hl := places_le v
  clear hb w0 hT
  go_enter Tryd.func5, Tryd.ntmps5
  go_wp2_with (first | (go_at_call 13; refine HB.out.mono ?_; rintro e w1 ⟨v1, rfl, hown1, hb1⟩) | (go_at_call 14; refine (refbits_any v hv _).mono ?_; rintro e w2 ⟨v2, rfl, hown2, hb2⟩) | (go_at_call 12; refine (ints_any v1 v2 (places32 v) hl _ ((intsAt_of_own hown1).below hb2) (intsAt_of_own hown2)).mono ?_; rintro e w3 ⟨rfl, hb3⟩) | (go_at_call 9; refine (sure_any _).mono ?_; rintro e w4 ⟨rfl, hb4⟩))
  go_ret
  exact ⟨rfl, ((hb1.trans (hb2.mono hb1.size)).trans (hb3.mono (Nat.le_trans hb1.size hb2.size))).trans (hb4.mono (Nat.le_trans hb1.size (Nat.le_trans hb2.size hb3.size)))⟩

theorem door_tab (os : Os) (args : Array Value) : laidMetH Tryd.prog Rows.wordBitsRow.laid ((World.doorLaid Tryd.prog 600 os).forCall (fun _ _ => 0) ⟨#[], args, []⟩).memory :=
  laidMetH_of_parts3 (fuel := 8) (laidMet_of_run' 8 (by kernel_rfl) (by kernel_rfl)) (by kernel_rfl) (by kernel_rfl)

theorem tab_of_laid {W : World} (h : laidMetH Tryd.prog Rows.wordBitsRow.laid W) : TabAt W := by
  rw [MakeChecks.laidMetH_plain _ _ _ (by kernel_rfl)] at h
  obtain ⟨ps, ⟨g0, t0, cs0, f0, p0, q0, hg0, ht0, hv0, hd0, _, _⟩, _, _⟩ := h
  obtain rfl := Option.some.inj (gTab.symm.trans hg0)
  obtain rfl := Option.some.inj (tTab.symm.trans ht0)
  obtain ⟨xs, m1, rfl, hx1, hlen, hn3, hel⟩ := DataW.trod_array Tryd.underlying68 hd0
  have c5 : Tryd.prog.cellsOf 5 = 1 := by kernel_rfl
  have c32 : Tryd.prog.cellsOf 68 = 32 := by kernel_rfl
  rw [c32] at hlen
  simp only [Prod.mk.injEq] at hx1
  intro j hj
  have h1 := hel j hj
  have hxj : j < xs.length := by omega
  rw [c5, List.getElem?_eq_getElem hxj] at h1
  obtain ⟨z, e1, e2, _⟩ := DataW.trod_int Tryd.underlying5 h1
  have hcell := World.var?_cell hg0 hv0 j
  have hjl : j < cs0.toList.length := by rw [hlen]; exact hj
  have e3 : (cs0.toList.drop (j * 1)).take 1 = [cs0.toList[j]] := by rw [Nat.mul_one, List.drop_eq_getElem_cons hjl]; simp
  rw [e3] at e1
  have e4 : cs0.toList[j] = .int .u8 z := by simpa using e1
  have e5 : (xs.map (·.1))[j]? = some (.lit (.int .u8 z)) := by rw [List.getElem?_map, List.getElem?_eq_getElem hxj, e2]; rfl
  have e7 : (DataW.agg (xs.map (·.1)) : DataW Unit) = .agg (Lib.deBruijn32tab.map fun n : Nat => DataW.lit (.int .u8 (n : Int))) := by rw [← hx1.1]; rfl
  have e8 : xs.map (·.1) = Lib.deBruijn32tab.map fun n : Nat => DataW.lit (.int .u8 (n : Int)) := by injection e7
  rw [e8, List.getElem?_map, List.getElem?_eq_getElem (show j < Lib.deBruijn32tab.length from hj)] at e5
  simp only [Option.map_some, Option.some.injEq, DataW.lit.injEq, Lit.int.injEq, true_and] at e5
  have e9 : cs0[j]? = some (.int .u8 z) := by rw [← Array.getElem?_toList, List.getElem?_eq_getElem hjl, e4]
  rw [hcell, e9, ← e5]
  congr 3
  rw [List.getD_eq_getElem?_getD, List.getElem?_eq_getElem (show j < Lib.deBruijn32tab.length from hj)]
  rfl

set_option maxRecDepth 100000 in
theorem bitslaw_lifted (os : Os) (started : os.Started) (H : Type) (enc : TypeId × Value → H) :
    ReturnsInHanded {} Tryd.checked os 5 .any (fun w args => (Rows.wordBitsSpec.pre enc Tryd.prog Tryd.f5 [] false w args ∧ laidMetH Tryd.prog Rows.wordBitsRow.laid w) ∧ sizedMet enc Tryd.prog Tryd.f5 (OpenSpec.ofChange Rows.wordBitsSpec) false w args)
      (Rows.wordBitsSpec.post enc Tryd.prog Tryd.f5 false true false false) := by
  refine returnsInHanded_of_change_and (C := Tryd.checked) (X := fun w _ => laidMetH Tryd.prog Rows.wordBitsRow.laid w) (fun _ _ _ hh h => h.of_heap hh) own started (by kernel_rfl) Tryd.func5
    (ChangeSpec.witness_shaped (enc := enc) (C := Tryd.checked) (os := os) (X := fun w _ => laidMetH Tryd.prog Rows.wordBitsRow.laid w) false (World.doorLaid Tryd.prog 600 os) #[.int .u32 0] 8 rfl (World.shaped_of_RefB (by kernel_rfl) (by kernel_rfl)) (by kernel_rfl) (by kernel_rfl) (by kernel_rfl) (door_tab os _)) ?_
  intro W base args ds gs before hval0 hW _ _ hL _
  have hval : ∀ (j : Nat) t v, Tryd.f5.params[j]? = some t → args[j]? = some v → Value.okWide Tryd.prog W .any base t v := hval0
  have hW' := hW
  obtain ⟨p, q, hA0, hV, rfl, hfz, hnd⟩ := hW
  have hA : DataW.TrodAll enc Tryd.prog W 0 (fun _ => true) true Tryd.f5.params.toList args.toList ds p := hA0
  rw [Tryd.params5] at hA hval
  obtain ⟨v0, vs0, d0, ds0, p0, q0, hargs, rfl, rfl, h0, r0⟩ := trodAll_cons hA
  obtain ⟨rfl, rfl, rfl⟩ := trodAll_nil r0
  obtain rfl : args = #[v0] := by cases args; simp_all
  obtain ⟨rfl, rfl⟩ := trodVars_none hV
  obtain ⟨a0, rfl, rfl, rfl, w0⟩ := open_int Tryd.underlying23 (hval 0 23 v0 rfl rfl) h0
  clear hA0 hval0
  refine (bitslaw_walk a0 w0 W (tab_of_laid hL)).mono fun e W' ⟨he, bel⟩ => ?_
  subst he
  exact ⟨_, rfl, _, _, _, [], [], [], hW', trodAll_mk1 (shut_bool Tryd.underlying4 _), (trodAll_cons_mk (shut_int Tryd.underlying23 w0) trodAll_mk0), rfl, bel.frame _, fun h => by cases h⟩

theorem bitslaw_over : Rows.WordBitsSaid :=
  OpenClaim.holds_of_wide 5 Tryd.f5 rfl rfl rfl rfl rfl rfl rfl ⟨rfl, rfl, rfl, rfl, rfl⟩ rfl rfl rfl rfl rfl (by kernel_rfl) Tryd.func5 (by kernel_rfl)
    (of_decide_eq_true (by kernel_rfl)) (by unfold Func.isWrapper; first | (rw [if_pos (by decide +kernel)]; kernel_rfl) | (rw [if_neg (by decide +kernel)]; exact ⟨rfl, rfl⟩))
    (fun os started H enc _ => bitslaw_lifted os started H enc)

theorem wordBits_proved : Rows.WordBitsCardSaid :=
  Claim7.holds_tied_plain_at .later [] [.data] true (true, "79fc767e82b9738558770dd277ee1dac5c300d5855edc72093435b0af7d9f8aa") true
    bitslaw_over (fun _ h => by cases h) (by kernel_rfl) (fun _ h => by cases h) wordBits_row_tie rfl ⟨rfl, rfl⟩ (by kernel_rfl) rfl
    (fun f fn hf hfn => by
      obtain rfl : f = 5 := Option.some.inj ((show Tryd.prog.funcNamed Rows.wordBitsRow.func = some 5 by kernel_rfl).symm.trans hf) |>.symm
      obtain rfl : fn = Tryd.f5 := (Option.some.inj (Tryd.func5.symm.trans hfn)).symm
      exact ⟨by kernel_rfl, fun j t ht => by
        rw [Tryd.params5] at ht
        have hm : t ∈ [23] := by simpa using Array.mem_of_getElem? ht
        have hall : ([23].all fun u => !Tryd.prog.wantsStandIn u) = true := by kernel_rfl
        exact (show Tryd.prog.wantsStandIn t = false by simpa using List.all_eq_true.1 hall t hm)⟩)
    (by kernel_rfl)
#print axioms wordBits_proved
end Go.Proofs.YtcgnkkkeoeoenaaDoor
