/-
  WordGets: for all bytes, every place and every width the program's Get is the document's, or the error with the number that the document asks, and what must come whatever the input is comes; the arguments stay. The one condition: errors.errorType reads as the program's text lays it, to which the card ties it.
-/
import Derived.Test.YtcgnkkkeoeoenaaDoorErrs
import Derived.Test.YtcgnkkkeoeoenaaDoorNum
import Derived.Test.YtcgnkkkeoeoenaaDoorBytes
import Derived.Test.YtcgnkkkeoeoenaaDoorLaid
import Derived.Test.YtcgnkkkeoeoenaaDoorTie
import Derived.Test.YtcgnkkkeoeoenaaDoorCards
import Derived.SevenTiedAt
import Derived.SizedLaws
namespace Go.Proofs.YtcgnkkkeoeoenaaDoor
open Go.ChangeShapes Go.WideShapes Go.ChangeAt Go.RowKit
set_option linter.unusedVariables false

theorem own : ownKnob Tryd.prog.godebug = none := by kernel_rfl
theorem laidOut : laidOutB Tryd.prog = true := by kernel_rfl
theorem bytes1 : Tryd.prog.bytesOf 5 = 1 := by kernel_rfl

theorem acc_plus (s : Nat) (x : UInt8) (h : s < 16777216) : (s * 256 % 4294967296 ||| x.toNat) = s * 256 + x.toNat := by
  have hx : x.toNat < 2 ^ 8 := x.toNat_lt
  rw [Nat.mod_eq_of_lt (by omega), nat_join 8 _ _ (by omega) hx]

theorem get_ref (g : Nat → UInt8) (at_ n : Nat) (hn : n = 1 ∨ n = 2 ∨ n = 4) : getN g at_ n = refN g at_ n := by
  have b : ∀ j, (g j).toNat < 256 := fun j => (g j).toNat_lt
  have b0 := b at_
  have b1 := b (at_ + 1)
  have b2 := b (at_ + 2)
  have b3 := b (at_ + 3)
  rcases hn with rfl | rfl | rfl
  · simp only [getN, upto, downAt, accN, refN, List.range_succ, List.range_zero, List.nil_append, List.map_cons, List.map_nil, List.foldl_cons, List.foldl_nil]
    rw [acc_plus _ _ (by omega)]
    simp
  · simp only [getN, upto, downAt, accN, refN, List.range_succ, List.range_zero, List.nil_append, List.cons_append, List.map_cons, List.map_nil, List.foldl_cons, List.foldl_nil]
    simp only [Nat.reduceSub, Nat.sub_zero, Nat.add_zero, Nat.sub_self]
    rw [acc_plus 0 _ (by omega), acc_plus _ _ (by omega)]
    omega
  · simp only [getN, upto, downAt, accN, refN, List.range_succ, List.range_zero, List.nil_append, List.cons_append, List.map_cons, List.map_nil, List.foldl_cons, List.foldl_nil]
    simp only [Nat.reduceSub, Nat.sub_zero, Nat.add_zero, Nat.sub_self]
    rw [acc_plus 0 _ (by omega), acc_plus (0 * 256 + (g (at_ + 3)).toNat) _ (by omega), acc_plus ((0 * 256 + (g (at_ + 3)).toNat) * 256 + (g (at_ + 2)).toNat) _ (by omega), acc_plus _ _ (by omega)]
    omega

set_option maxHeartbeats 1000000 in
set_option maxRecDepth 100000 in
theorem gets_walk (a0 : Option Addr) (len cap : Nat) (g : Nat → UInt8) (a1 a2 : Int) (w : World) (w0 : IsBytes w a0 len cap g) (hg : HandleAt w) :
    Calls Tryd.prog 3 #[.slice a0 len cap, .int .i64 a1, .int .i64 a2] w fun e w' => e = .returned (.bool true) ∧ Below w.heap.size w w' := by
  have hl := w0.len_le
  by_cases hc : codeN len a1 a2 = 0
  · have hok : (a2 = 1 ∨ a2 = 2 ∨ a2 = 4) ∧ 0 ≤ a1 ∧ a1 ≤ len - a2 ∧ a1 % a2 = 0 := by
      unfold codeN at hc
      split at hc
      · omega
      · split at hc
        · omega
        · split at hc
          · omega
          · omega
    obtain ⟨hn, h0, h1, h2⟩ := hok
    obtain ⟨at_, rfl⟩ := Int.eq_ofNat_of_zero_le h0
    obtain ⟨n, rfl⟩ := Int.eq_ofNat_of_zero_le (show 0 ≤ a2 by omega)
    have hn' : n = 1 ∨ n = 2 ∨ n = 4 := by omega
    rcases w0 with ⟨hz, _⟩ | ⟨b, off, rfl, hp, hlt, hlc, hcm, hcell⟩
    · omega
    have HG := hide (get_any b off len cap g at_ n hn' (by omega) (by omega) hlc hcm w hlt (fun j hj => hcell j (by omega)))
    have HR := hide (fun w1 (hb1 : Below w.heap.size w w1) => refget_ok b off len cap g at_ n hn' (by omega) (by omega) hlc hcm w1 (fun j hj => (hb1.cell (p := ⟨b, off + j, none⟩) hlt).trans (hcell j (by omega))))
    rw [get_ref g at_ n hn'] at HG
    generalize refN g at_ n = z at *
    clear hcell hc hn hn' h0 h1 h2 hg
    go_enter Tryd.func3, Tryd.ntmps3
    go_wp2_with (first | (go_at_call 6; refine HG.out.mono ?_; rintro e w1 ⟨rfl, hb1⟩) | (go_at_call 7; refine (HR.out _ hb1).mono ?_; rintro e w2 ⟨rfl, rfl⟩) | (go_at_call 8; refine (num_nil _).mono ?_; rintro e w3 ⟨rfl, hb3⟩) | (go_at_call 9; refine (sure_any _).mono ?_; rintro e w4 ⟨rfl, hb4⟩))
    go_ret
    exact ⟨rfl, (hb1.trans (hb3.mono hb1.size)).trans (hb4.mono (Nat.le_trans hb1.size hb3.size))⟩
  · have HG := hide (get_bad a0 len cap (by omega) a1 a2 hc)
    have HR := hide (refget_bad a0 len cap (by omega) a1 a2 hc)
    generalize codeN len a1 a2 = c at *
    have HN := hide (num_err c w hg)
    clear hg hc w0 hl
    go_enter Tryd.func3, Tryd.ntmps3
    go_wp2_with (first | (go_at_call 6; refine (HG.out _).mono ?_; rintro e w1 ⟨rfl, rfl⟩) | (go_at_call 7; refine (HR.out _).mono ?_; rintro e w2 ⟨rfl, rfl⟩) | (go_at_call 8; refine HN.out.mono ?_; rintro e w3 ⟨rfl, hb3⟩) | (go_at_call 9; refine (sure_any _).mono ?_; rintro e w4 ⟨rfl, hb4⟩))
    go_ret
    exact ⟨rfl, hb3.trans (hb4.mono hb3.size)⟩

set_option maxRecDepth 100000 in
theorem gets_lifted (os : Os) (started : os.Started) (H : Type) (enc : TypeId × Value → H) :
    ReturnsInHanded {} Tryd.checked os 3 .any (fun w args => (Rows.wordGetsSpec.pre enc Tryd.prog Tryd.f3 [] false w args ∧ laidMetH Tryd.prog [("errors.errorType", Rows.laid_errors_errorType)] w) ∧ sizedMet enc Tryd.prog Tryd.f3 (OpenSpec.ofChange Rows.wordGetsSpec) false w args)
      (Rows.wordGetsSpec.post enc Tryd.prog Tryd.f3 false true false false) := by
  refine returnsInHanded_of_change_and (C := Tryd.checked) (X := fun w _ => laidMetH Tryd.prog [("errors.errorType", Rows.laid_errors_errorType)] w) (fun _ _ _ hh h => h.of_heap hh) own started (by kernel_rfl) Tryd.func3
    (ChangeSpec.witness_shaped (enc := enc) (C := Tryd.checked) (os := os) (X := fun w _ => laidMetH Tryd.prog [("errors.errorType", Rows.laid_errors_errorType)] w) false (World.doorLaid Tryd.prog 600 os) #[.slice none 0 0, .int .i64 0, .int .i64 0] 8 rfl (World.shaped_of_RefB (by kernel_rfl) (by kernel_rfl)) (by kernel_rfl) (by kernel_rfl) (by kernel_rfl) (door_met os _)) ?_
  intro W base args ds gs before hval0 hW _ hsz0 hL _
  have hval : ∀ (j : Nat) t v, Tryd.f3.params[j]? = some t → args[j]? = some v → Value.okWide Tryd.prog W .any base t v := hval0
  have hsz : (DataW.weightsEach Tryd.prog (Tryd.f3.params.toList ++ Rows.wordGetsSpec.plain.varTypes Tryd.prog) (ds ++ gs)).all (· ≤ reachBytes) = true := hsz0
  clear hsz0
  have hW' := hW
  obtain ⟨p, q, hA0, hV, rfl, hfz, hnd⟩ := hW
  have hA : DataW.TrodAll enc Tryd.prog W 0 (fun _ => true) true Tryd.f3.params.toList args.toList ds p := hA0
  rw [Tryd.params3] at hA hval hsz
  obtain ⟨v0, vs0, d0, ds0, p0, q0, hargs, rfl, rfl, h0, r0⟩ := trodAll_cons hA
  obtain ⟨v1, vs1, d1, ds1, p1, q1, rfl, rfl, rfl, h1, r1⟩ := trodAll_cons r0
  obtain ⟨v2, vs2, d2, ds2, p2, q2, rfl, rfl, rfl, h2, r2⟩ := trodAll_cons r1
  obtain ⟨rfl, rfl, rfl⟩ := trodAll_nil r2
  obtain rfl : args = #[v0, v1, v2] := by cases args; simp_all
  obtain ⟨rfl, rfl⟩ := trodVars_none hV
  obtain ⟨a0, len0, cap0, rfl⟩ := okWide_slice Tryd.underlying22 (hval 0 22 v0 rfl rfl)
  have lt0 : ∀ x ∈ p0, x.block < W.heap.size := by obtain ⟨m, hm⟩ := h0; exact DataW.trod_lt m _ _ _ hm
  obtain ⟨g, w0⟩ := open_bytes Tryd.underlying22 Tryd.underlying5 (by kernel_rfl) h0 (fun el sp e => by
    subst e
    have := sized_slice hsz (j := 0) (t := 22) (e := 5) rfl rfl Tryd.underlying22
    rw [bytes1] at this
    simp only [reachBytes] at this
    omega)
  obtain ⟨a1, rfl, rfl, rfl, w1⟩ := open_int Tryd.underlying3 (hval 1 3 v1 rfl rfl) h1
  obtain ⟨a2, rfl, rfl, rfl, w2⟩ := open_int Tryd.underlying3 (hval 2 3 v2 rfl rfl) h2
  clear hA0 hval0
  refine (gets_walk a0 len0 cap0 g a1 a2 W w0 (handle_of_laid hL)).mono fun e W' ⟨he, bel⟩ => ?_
  subst he
  exact ⟨_, rfl, _, _, _, [], _, [], hW', trodAll_mk1 (shut_bool Tryd.underlying4 _), (trodAll_cons_mk (Below.trod laidOut (by kernel_rfl) (of_decide_eq_true (by kernel_rfl)) h0 bel lt0) (trodAll_cons_mk (shut_int Tryd.underlying3 w1) (trodAll_cons_mk (shut_int Tryd.underlying3 w2) trodAll_mk0))), rfl, bel.frame _, fun h => by cases h⟩

theorem gets_over : Rows.WordGetsSaid :=
  OpenClaim.holds_of_wide 3 Tryd.f3 rfl rfl rfl rfl rfl rfl rfl ⟨rfl, rfl, rfl, rfl, rfl⟩ rfl rfl rfl rfl rfl (by kernel_rfl) Tryd.func3 (by kernel_rfl)
    (of_decide_eq_true (by kernel_rfl)) (by unfold Func.isWrapper; first | (rw [if_pos (by decide +kernel)]; kernel_rfl) | (rw [if_neg (by decide +kernel)]; exact ⟨rfl, rfl⟩))
    (fun os started H enc _ => gets_lifted os started H enc)

theorem wordGets_proved : Rows.WordGetsCardSaid :=
  Claim7.holds_tied_plain_at .later [] [.handle] true (true, "79fc767e82b9738558770dd277ee1dac5c300d5855edc72093435b0af7d9f8aa") true
    gets_over (fun _ h => by cases h) (by kernel_rfl) (fun _ h => by cases h) wordGets_row_tie rfl ⟨rfl, rfl⟩ (by kernel_rfl) rfl
    (fun f fn hf hfn => by
      obtain rfl : f = 3 := Option.some.inj ((show Tryd.prog.funcNamed Rows.wordGetsRow.func = some 3 by kernel_rfl).symm.trans hf) |>.symm
      obtain rfl : fn = Tryd.f3 := (Option.some.inj (Tryd.func3.symm.trans hfn)).symm
      exact ⟨by kernel_rfl, fun j t ht => by
        rw [Tryd.params3] at ht
        have hm : t ∈ [22, 3, 3] := by simpa using Array.mem_of_getElem? ht
        have hall : ([22, 3, 3].all fun u => !Tryd.prog.wantsStandIn u) = true := by kernel_rfl
        exact (show Tryd.prog.wantsStandIn t = false by simpa using List.all_eq_true.1 hall t hm)⟩)
    (by kernel_rfl)
#print axioms wordGets_proved
end Go.Proofs.YtcgnkkkeoeoenaaDoor
