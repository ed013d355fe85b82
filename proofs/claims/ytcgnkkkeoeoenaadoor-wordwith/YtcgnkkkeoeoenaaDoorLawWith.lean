/-
  WordWith: for all bytes, every place, every width and every number the program's With is the document's, or the error with the number that the document asks, the bytes that are handed in stay, and what must come whatever the input is comes; the arguments stay. The one condition: errors.errorType reads as the program's text lays it, to which the card ties it.
-/
import Derived.Test.YtcgnkkkeoeoenaaDoorWithLaw
import Derived.Test.YtcgnkkkeoeoenaaDoorLaid
import Derived.Test.YtcgnkkkeoeoenaaDoorTie
import Derived.Test.YtcgnkkkeoeoenaaDoorCards
import Derived.SevenTiedAt
import Derived.SizedLaws
namespace Go.Proofs.YtcgnkkkeoeoenaaDoor
open Go.ChangeShapes Go.WideShapes Go.ChangeAt Go.RowKit
set_option linter.unusedVariables false

theorem own : ownKnob Tryd.prog.godebug = none := by kernel_rfl
theorem laidOut : laidOutB Tryd.prog = true := by kernel_rfl
theorem bytes1 : Tryd.prog.bytesOf 5 = 1 := by kernel_rfl

theorem withs_walk (a0 : Option Addr) (len cap : Nat) (g : Nat → UInt8) (a1 a2 v : Int) (w : World) (w0 : IsBytes w a0 len cap g) (wv : (Lit.int .u32 v).wf = true) (hg : HandleAt w) :
    Calls Tryd.prog 4 #[.slice a0 len cap, .agg #[.int .i64 a1, .int .i64 a2], .int .u32 v] w fun e w' => e = .returned (.bool true) ∧ Below w.heap.size w w' := by
  have hl := w0.len_le
  by_cases h0 : len = 0
  · subst h0
    exact withs_empty a0 cap a1 a2 v w hg
  · by_cases hbig : 100000 < len
    · exact withs_great a0 len cap hbig a1 a2 v w
    · rcases w0 with ⟨hz, _⟩ | ⟨b, off, rfl, hp, hlt, hlc, hcm, hcell⟩
      · omega
      have hlen : ((List.range len).map g).length = len := by simp
      have hsrc : ∀ j u, (cellsB ((List.range len).map g))[j]? = some u → w.cell? ⟨b, off + j, none⟩ = some u := by
        intro j u hj
        have hj' : j < len := by
          have := (List.getElem?_eq_some_iff.1 hj).1
          simpa [cellsB] using this
        rw [hcell j (by omega), ← hj]
        simp [cellsB, hj']
      generalize (List.range len).map g = l at *
      subst hlen
      by_cases hc : codeN l.length a1 a2 = 0
      · have hok : (a2 = 1 ∨ a2 = 2 ∨ a2 = 4) ∧ 0 ≤ a1 ∧ a1 ≤ l.length - a2 ∧ a1 % a2 = 0 := by
          unfold codeN at hc
          split at hc
          · omega
          · split at hc
            · omega
            · split at hc
              · omega
              · omega
        obtain ⟨hn, hp0, h1, h2⟩ := hok
        obtain ⟨at_, rfl⟩ := Int.eq_ofNat_of_zero_le hp0
        obtain ⟨n, rfl⟩ := Int.eq_ofNat_of_zero_le (show 0 ≤ a2 by omega)
        have hb := bounds_u32 wv
        obtain ⟨x, rfl⟩ := Int.eq_ofNat_of_zero_le (show 0 ≤ v by omega)
        exact withs_ok b off cap l (by omega) (by omega) at_ n (by omega) (by omega) (by omega) x (by omega) w hsrc hlt
      · exact withs_bad b off cap l (by omega) (by omega) a1 a2 hc v w hsrc hlt hg

set_option maxRecDepth 100000 in
theorem withs_lifted (os : Os) (started : os.Started) (H : Type) (enc : TypeId × Value → H) :
    ReturnsInHanded {} Tryd.checked os 4 .any (fun w args => (Rows.wordWithSpec.pre enc Tryd.prog Tryd.f4 [] false w args ∧ laidMetH Tryd.prog [("errors.errorType", Rows.laid_errors_errorType)] w) ∧ sizedMet enc Tryd.prog Tryd.f4 (OpenSpec.ofChange Rows.wordWithSpec) false w args)
      (Rows.wordWithSpec.post enc Tryd.prog Tryd.f4 false true false false) := by
  refine returnsInHanded_of_change_and (C := Tryd.checked) (X := fun w _ => laidMetH Tryd.prog [("errors.errorType", Rows.laid_errors_errorType)] w) (fun _ _ _ hh h => h.of_heap hh) own started (by kernel_rfl) Tryd.func4
    (ChangeSpec.witness_shaped (enc := enc) (C := Tryd.checked) (os := os) (X := fun w _ => laidMetH Tryd.prog [("errors.errorType", Rows.laid_errors_errorType)] w) false (World.doorLaid Tryd.prog 600 os) #[.slice none 0 0, .agg #[.int .i64 0, .int .i64 0], .int .u32 0] 8 rfl (World.shaped_of_RefB (by kernel_rfl) (by kernel_rfl)) (by kernel_rfl) (by kernel_rfl) (by kernel_rfl) (door_met os _)) ?_
  intro W base args ds gs before hval0 hW _ hsz0 hL _
  have hval : ∀ (j : Nat) t v, Tryd.f4.params[j]? = some t → args[j]? = some v → Value.okWide Tryd.prog W .any base t v := hval0
  have hsz : (DataW.weightsEach Tryd.prog (Tryd.f4.params.toList ++ Rows.wordWithSpec.plain.varTypes Tryd.prog) (ds ++ gs)).all (· ≤ reachBytes) = true := hsz0
  clear hsz0
  have hW' := hW
  obtain ⟨p, q, hA0, hV, rfl, hfz, hnd⟩ := hW
  have hA : DataW.TrodAll enc Tryd.prog W 0 (fun _ => true) true Tryd.f4.params.toList args.toList ds p := hA0
  rw [Tryd.params4] at hA hval hsz
  obtain ⟨v0, vs0, d0, ds0, p0, q0, hargs, rfl, rfl, h0, r0⟩ := trodAll_cons hA
  obtain ⟨v1, vs1, d1, ds1, p1, q1, rfl, rfl, rfl, h1, r1⟩ := trodAll_cons r0
  obtain ⟨v2, vs2, d2, ds2, p2, q2, rfl, rfl, rfl, h2, r2⟩ := trodAll_cons r1
  obtain ⟨rfl, rfl, rfl⟩ := trodAll_nil r2
  obtain rfl : args = #[v0, v1, v2] := by cases args; simp_all
  obtain ⟨rfl, rfl⟩ := trodVars_none hV
  obtain ⟨a0, len0, cap0, rfl⟩ := okWide_slice Tryd.underlying22 (hval 0 22 v0 rfl rfl)
  have lt0 : ∀ x ∈ p0, x.block < W.heap.size := by obtain ⟨m, hm⟩ := h0; exact DataW.trod_lt m _ _ _ hm
  obtain ⟨g, w0⟩ := open_bytes Tryd.underlying22 Tryd.underlying5 (by kernel_rfl) h0 (fun el sp e => by
    subst e
    have := sized_slice hsz (j := 0) (t := 22) (e := 5) rfl rfl Tryd.underlying22
    rw [bytes1] at this
    simp only [reachBytes] at this
    omega)
  have lt1 : ∀ x ∈ p1, x.block < W.heap.size := by obtain ⟨m, hm⟩ := h1; exact DataW.trod_lt m _ _ _ hm
  obtain ⟨z0, z1, rfl, hz0, hz1⟩ := open_array2 Tryd.underlying33 Tryd.underlying3 (by kernel_rfl) (by kernel_rfl) (hval 1 33 v1 rfl rfl) h1
  obtain ⟨a2, rfl, rfl, rfl, w2⟩ := open_int Tryd.underlying23 (hval 2 23 v2 rfl rfl) h2
  clear hA0 hval0
  refine (withs_walk a0 len0 cap0 g z0 z1 a2 W w0 w2 (handle_of_laid hL)).mono fun e W' ⟨he, bel⟩ => ?_
  subst he
  exact ⟨_, rfl, _, _, _, [], _, [], hW', trodAll_mk1 (shut_bool Tryd.underlying4 _), (trodAll_cons_mk (Below.trod laidOut (by kernel_rfl) (of_decide_eq_true (by kernel_rfl)) h0 bel lt0) (trodAll_cons_mk (Below.trod laidOut (by kernel_rfl) (of_decide_eq_true (by kernel_rfl)) h1 bel lt1) (trodAll_cons_mk (shut_int Tryd.underlying23 w2) trodAll_mk0))), rfl, bel.frame _, fun h => by cases h⟩

theorem withs_over : Rows.WordWithSaid :=
  OpenClaim.holds_of_wide 4 Tryd.f4 rfl rfl rfl rfl rfl rfl rfl ⟨rfl, rfl, rfl, rfl, rfl⟩ rfl rfl rfl rfl rfl (by kernel_rfl) Tryd.func4 (by kernel_rfl)
    (of_decide_eq_true (by kernel_rfl)) (by unfold Func.isWrapper; first | (rw [if_pos (by decide +kernel)]; kernel_rfl) | (rw [if_neg (by decide +kernel)]; exact ⟨rfl, rfl⟩))
    (fun os started H enc _ => withs_lifted os started H enc)

theorem wordWith_proved : Rows.WordWithCardSaid :=
  Claim7.holds_tied_plain_at .later [] [.handle] true (true, "79fc767e82b9738558770dd277ee1dac5c300d5855edc72093435b0af7d9f8aa") true
    withs_over (fun _ h => by cases h) (by kernel_rfl) (fun _ h => by cases h) wordWith_row_tie rfl ⟨rfl, rfl⟩ (by kernel_rfl) rfl
    (fun f fn hf hfn => by
      obtain rfl : f = 4 := Option.some.inj ((show Tryd.prog.funcNamed Rows.wordWithRow.func = some 4 by kernel_rfl).symm.trans hf) |>.symm
      obtain rfl : fn = Tryd.f4 := (Option.some.inj (Tryd.func4.symm.trans hfn)).symm
      exact ⟨by kernel_rfl, fun j t ht => by
        rw [Tryd.params4] at ht
        have hm : t ∈ [22, 33, 23] := by simpa using Array.mem_of_getElem? ht
        have hall : ([22, 33, 23].all fun u => !Tryd.prog.wantsStandIn u) = true := by kernel_rfl
        exact (show Tryd.prog.wantsStandIn t = false by simpa using List.all_eq_true.1 hall t hm)⟩)
    (by kernel_rfl)
#print axioms wordWith_proved
end Go.Proofs.YtcgnkkkeoeoenaaDoor
