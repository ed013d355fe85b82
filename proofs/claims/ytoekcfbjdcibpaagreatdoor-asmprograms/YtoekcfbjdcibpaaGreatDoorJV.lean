/-
  AsmPrograms: of every program the words are the document's, or the error has the number that the document asks, and the line; what must come whatever the input is comes; the argument stays. The one condition: the listed variables read as the program's text lays them, to which the card ties them.
-/
import Derived.Test.YtoekcfbjdcibpaaGreatDoorJG
import Derived.Deep.DrawnRows
import Derived.Deep.AppendSrc
import Derived.Maps.AppendAt
import Derived.Test.YtoekcfbjdcibpaaGreatDoorJT
import Derived.Test.YtoekcfbjdcibpaaGreatDoorJW
import Derived.ProofKit
import Derived.OpenShut
namespace Go.Proofs.YtoekcfbjdcibpaaGreatDoor
open Go.RowKit
set_option linter.unusedVariables false

theorem wd_keep {w w' : World} (hb : Below w.heap.size w w') {g j : Nat} {v : Value} (h : w.cell? ⟨g, j, none⟩ = some v) : w'.cell? ⟨g, j, none⟩ = some v :=
  (hb.cell (p := ⟨g, j, none⟩) (block_lt_of_cell h)).trans h

attribute [local go_sem ↓] Go.wp_at_zero Go.wp_at_succ
set_option maxHeartbeats 600000 in
theorem wd_same (g1 g2 N c1 c2 : Nat) (hN : N ≤ 100000) (h1 : N ≤ c1) (h2 : N ≤ c2) (f : Nat → Nat) (w : World) (k1 : ∀ j, j < N → w.cell? ⟨g1, j, none⟩ = some (.int .u32 (f j : Nat))) (k2 : ∀ j, j < N → w.cell? ⟨g2, j, none⟩ = some (.int .u32 (f j : Nat))) :
    Calls Tryz.prog 17 #[.slice (some ⟨g1, 0, none⟩) N c1, .slice (some ⟨g2, 0, none⟩) N c2] w fun e w' => e = .returned (.bool true) ∧ Below w.heap.size w w' := by
  have K1 := hide k1
  have K2 := hide k2
  have hz : ((N : Int) != (N : Int)) = false := by simp
  clear k1 k2
  go_enter Tryz.func17, Tryz.ntmps17
  go_wp2
  go_loopw [5] (fun kv wr => Below w.heap.size w wr ∧ ∃ k : Nat, k ≤ N ∧ kv = .int .i64 (k : Nat)) (fun kv _ => N - (intOf kv).toNat)
  case atStart => exact ⟨Below.refl _ _, 0, Nat.zero_le _, rfl⟩
  case round =>
    obtain ⟨hB, k, hk, rfl⟩ := hrel
    by_cases hlt : k < N
    · have a1 := wd_keep hB (K1.out k hlt)
      have a2 := wd_keep hB (K2.out k hlt)
      have hz2 : ((f k : Int) != (f k : Int)) = false := by simp
      have HB := hide hB
      clear hB
      go_wp2
      go_region
      all_goals
        go_simp
        go_wp2
        go_roundw
        case rel => exact ⟨HB.out.drew, k + 1, by omega, by go_num⟩
        case measure => simp only [intOf]; omega
    · obtain rfl : k = N := by omega
      go_wp2
      go_ret
      exact ⟨rfl, hB⟩
theorem wd_none (a1 a2 : Option Addr) (c1 c2 : Nat) (w : World) :
    Calls Tryz.prog 17 #[.slice a1 0 c1, .slice a2 0 c2] w fun e w' => e = .returned (.bool true) ∧ Below w.heap.size w w' := by
  go_enter Tryz.func17, Tryz.ntmps17
  go_wp2
  go_loopw [5] (fun kv wr => Below w.heap.size w wr ∧ kv = .int .i64 0) (fun kv _ => 0)
  case atStart => exact ⟨Below.refl _ _, rfl⟩
  case round =>
    obtain ⟨hB, rfl⟩ := hrel
    go_wp2
    go_ret
    exact ⟨rfl, hB⟩
/-- Two rows of the same words. -/
theorem wd_own {W : World} {B1 B2 : Nat} {v1 v2 : Value} {l : List Nat} (hl : l.length ≤ 100000) (h1 : W.ownsRow B1 48 1 v1 l.length (wordCells l)) (h2 : W.ownsRow B2 48 1 v2 l.length (wordCells l)) :
    Calls Tryz.prog 17 #[v1, v2] W fun e w' => e = .returned (.bool true) ∧ Below W.heap.size W w' := by
  by_cases hn : l = []
  · subst hn
    obtain ⟨_, ⟨rfl, _⟩ | ⟨g, cap, cur, rfl, _⟩⟩ := h1 <;> obtain ⟨_, ⟨rfl, _⟩ | ⟨g', cap', cur', rfl, _⟩⟩ := h2
    all_goals exact wd_none _ _ _ _ W
  · obtain ⟨g1, c1, rfl, _, e1, _, k1⟩ := words_cell h1 rfl hn
    obtain ⟨g2, c2, rfl, _, e2, _, k2⟩ := words_cell h2 rfl hn
    exact wd_same g1 g2 l.length c1 c2 hl e1 e2 (fun j => l.getD j 0) W (fun j hj => by rw [k1 j _ (List.getElem?_eq_getElem hj), List.getD_eq_getElem?_getD, List.getElem?_eq_getElem hj]; rfl) (fun j hj => by rw [k2 j _ (List.getElem?_eq_getElem hj), List.getD_eq_getElem?_getD, List.getElem?_eq_getElem hj]; rfl)
end Go.Proofs.YtoekcfbjdcibpaaGreatDoor
namespace Go.Proofs.YtoekcfbjdcibpaaGreatDoor
open Go.RowKit Go.Lib
set_option linter.unusedVariables false

theorem words_few (m : Labs) : ∀ (ls : List Ln) (k : Nat) (acc : List Nat), (wordsL m ls k acc).2.2.length ≤ acc.length + ls.length
  | [], k, acc => by rw [wordsL]; simp
  | l :: r, k, acc => by
    rw [wordsL]
    split
    · have := words_few m r (k + 1) (acc ++ [wordV l.2 ((k : Int) * 4) m])
      simp at this
      simp
      omega
    · simp
theorem prog_few (s : Str) : (progL s).2.2.length ≤ s.length + 1 := by
  unfold progL
  split
  · rcases hp : placesFrom (saidL s) 0 [] with ⟨_ | k, m⟩
    · show (wordsL m (dropL isLab (saidL s)) 0 []).2.2.length ≤ _
      have h1 := words_few m (dropL isLab (saidL s)) 0 []
      have h2 := drop_len isLab (saidL s)
      have h3 := said_len s
      simp at h1
      omega
    · show ([] : List Nat).length ≤ _
      simp
  · simp
set_option maxHeartbeats 1000000 in
set_option maxRecDepth 100000 in
theorem prog_far (s : ByteArray) (hs : s.size ≤ 9223372036854775807) (hl : 65536 < s.size) (w : World) :
    Calls Tryz.prog 15 #[.string s] w fun e w' => e = .returned (.tuple #[.slice none 0 0, .int .i64 0, errno 2]) ∧ Below w.heap.size w w' := by
  have t0 : (s.size : Int) > 65536 := by omega
  go_enter Tryz.func15, Tryz.ntmps15
  go_wp2
  go_ret3
  exact ⟨rfl, Below.refl _ w⟩
/-- What both answer, of a text that is gone through. -/
theorem progs_two (s : ByteArray) (hs : s.size ≤ 9223372036854775807) (h : s.size ≤ 3000 ∨ 65536 < s.size) : ∃ (at' : Nat) (n : Int) (l : List Nat), l.length ≤ 100000 ∧
    (∀ w, AsAt w → Calls Tryz.prog 15 #[.string s] w fun e w' => ∃ v, e = .returned (.tuple #[v, .int .i64 (at' : Int), errno n]) ∧ w'.ownsRow w.heap.size 48 1 v l.length (wordCells l) ∧ Below w.heap.size w w') ∧
    (∀ w, Calls Tryz.prog 16 #[.string s] w fun e w' => ∃ v, e = .returned (.tuple #[v, .int .i64 (at' : Int), .int .i64 n]) ∧ w'.ownsRow w.heap.size 48 1 v l.length (wordCells l) ∧ Below w.heap.size w w') := by
  have hsl : s.data.toList.length = s.size := by simp
  rcases h with h | h
  · refine ⟨(progL s.data.toList).1, (progL s.data.toList).2.1, (progL s.data.toList).2.2, by have := prog_few s.data.toList; omega, fun w hA => ?_, fun w => ?_⟩
    · have h1 := prog_any s.data.toList (by omega) w hA
      rw [ba_list] at h1
      exact h1.mono fun e w' ⟨v, h2, h3, h4, _⟩ => ⟨v, h2, h3, h4⟩
    · refine (rprog_any s h w).mono ?_
      rintro e w' ⟨⟨v, h2, h3, h4⟩⟩
      rw [prog_same] at h2 h3
      exact ⟨v, h2, h3, h4⟩
  · refine ⟨0, 2, [], by simp, fun w hA => ?_, fun w => ?_⟩
    · refine (prog_far s hs h w).mono ?_
      rintro e w' ⟨rfl, hb⟩
      exact ⟨_, rfl, ⟨rfl, .inl ⟨rfl, rfl⟩⟩, hb⟩
    · refine (rprog_long s hs h w).mono ?_
      rintro e w' ⟨⟨v, h2, h3, h4⟩⟩
      have e1 : progD s.data.toList = (0, 2, []) := by unfold progD; rw [if_neg (by omega)]
      rw [e1] at h2 h3
      exact ⟨v, h2, h3, h4⟩
set_option maxHeartbeats 1000000 in
theorem programs_walk (s : ByteArray) (hm : s.size ≤ 9223372036854775807) (w : World) (hA : AsAt w) (hH : HandleAt w) :
    Calls Tryz.prog 5 #[.string s] w fun e w' => e = .returned (.bool true) ∧ Below w.heap.size w w' := by
  have HS := hide sure_any
  have HA := hide hA
  have HH := hide hH
  clear hA hH
  by_cases h1 : s.size ≤ 3000
  · obtain ⟨at', n, l, hl, HP, HR⟩ := progs_two s hm (.inl h1)
    replace HP := hide HP
    replace HR := hide HR
    have HN := hide (num_all n)
    generalize errno n = en at *
    have t0 : decide ((s.size : Int) > 3000) = false := decide_eq_false (by omega)
    have t0' : decide ((3000 : Int) < (s.size : Int)) = false := decide_eq_false (by omega)
    go_enter Tryz.func5, Tryz.ntmps5
    go_wp2_with (first | (go_at_call 15; (with_reducible refine (HP.out _ HA.out).mono ?_); rintro e W1 ⟨v1, rfl, ho1, hb⟩) | (go_at_call 16; (with_reducible refine (HR.out _).mono ?_); rintro e W2 ⟨v2, rfl, ho2, hbc⟩; replace ho1 := own_keeps ho1 hbc; replace hb := below_bl rfl hb hbc) | (go_at_call 17; (with_reducible refine (wd_own hl ho1 ho2).mono ?_); rintro e W3 ⟨rfl, hbc⟩; replace hb := below_bl rfl hb hbc) | (go_at_call 11; (with_reducible refine (HN.out _ (HH.out.below hb)).mono ?_); rintro e W4 ⟨rfl, hbc⟩; replace hb := below_bl rfl hb hbc) | (go_at_call 12; (with_reducible refine (HS.out _ (HA.out.below hb)).mono ?_); rintro e W5 ⟨rfl, hbc⟩; replace hb := below_bl rfl hb hbc))
    go_ret
    exact ⟨rfl, hb⟩
  by_cases h2 : 65536 < s.size
  · obtain ⟨at', n, l, hl, HP, HR⟩ := progs_two s hm (.inr h2)
    replace HP := hide HP
    replace HR := hide HR
    have HN := hide (num_all n)
    generalize errno n = en at *
    have t0 : (s.size : Int) > 3000 := by omega
    have t1 : decide ((s.size : Int) ≤ 65536) = false := decide_eq_false (by omega)
    have t1n : decide (s.size ≤ 65536) = false := decide_eq_false (by omega)
    go_enter Tryz.func5, Tryz.ntmps5
    go_wp2_with (first | (go_at_call 15; (with_reducible refine (HP.out _ HA.out).mono ?_); rintro e W1 ⟨v1, rfl, ho1, hb⟩) | (go_at_call 16; (with_reducible refine (HR.out _).mono ?_); rintro e W2 ⟨v2, rfl, ho2, hbc⟩; replace ho1 := own_keeps ho1 hbc; replace hb := below_bl rfl hb hbc) | (go_at_call 17; (with_reducible refine (wd_own hl ho1 ho2).mono ?_); rintro e W3 ⟨rfl, hbc⟩; replace hb := below_bl rfl hb hbc) | (go_at_call 11; (with_reducible refine (HN.out _ (HH.out.below hb)).mono ?_); rintro e W4 ⟨rfl, hbc⟩; replace hb := below_bl rfl hb hbc) | (go_at_call 12; (with_reducible refine (HS.out _ (HA.out.below hb)).mono ?_); rintro e W5 ⟨rfl, hbc⟩; replace hb := below_bl rfl hb hbc))
    go_ret
    exact ⟨rfl, hb⟩
  · have t0 : (s.size : Int) > 3000 := by omega
    have t1 : (s.size : Int) ≤ 65536 := by omega
    go_enter Tryz.func5, Tryz.ntmps5
    go_wp2_with (first | (go_at_call 12; (with_reducible refine (HS.out _ HA.out).mono ?_); rintro e W ⟨rfl, hb⟩))
    go_ret
    exact ⟨rfl, hb⟩
end Go.Proofs.YtoekcfbjdcibpaaGreatDoor
namespace Go.Proofs.YtoekcfbjdcibpaaGreatDoor
open Go.ChangeShapes Go.WideShapes Go.ChangeAt Go.RowKit
open Go.ChangeMaps (open_string shut_string)
set_option linter.unusedVariables false

theorem laidOut : laidOutB Tryz.prog = true := by kernel_rfl

abbrev plainT : List (String × DataW Unit) := [("math/bits.deBruijn32tab", Rows.laid_math_bits_deBruijn32tab), ("math/bits.deBruijn64tab", Rows.laid_math_bits_deBruijn64tab), ("internal/strconv.uint64pow10", Rows.laid_internal_strconv_uint64pow10), ("unicode/utf8.acceptRanges", Rows.laid_unicode_utf8_acceptRanges), ("strconv.ErrRange", Rows.laid_strconv_ErrRange), ("strconv.ErrSyntax", Rows.laid_strconv_ErrSyntax), ("pinnace/inst.names", Rows.laid_pinnace_inst_names), ("pinnace/inst.kinds", Rows.laid_pinnace_inst_kinds), ("pinnace/inst.words", Rows.laid_pinnace_inst_words), ("unicode/utf8.first", Rows.laid_unicode_utf8_first)]
theorem met_texts {W : World} (h : laidMetH Tryz.prog Rows.asmProgramsRow.laid W) : laidMet Tryz.prog plainT W ∧ handlesMet Tryz.prog [("errors.errorType", Rows.laid_errors_errorType)] W := h
theorem asAt_texts {W : World} (h : laidMetH Tryz.prog Rows.asmProgramsRow.laid W) (hs : W.ShapedOpen Tryz.prog) : AsAt W :=
  asAt_of_laid (met_texts h).1 hs (by simp) (by simp) (by simp) (by simp) (by simp) (by simp) (by simp) (by simp)

set_option maxRecDepth 100000 in
theorem asmPrograms_lifted (os : Os) (started : os.Started) (H : Type) (enc : TypeId × Value → H) :
    ReturnsInHanded {} Tryz.checked os 5 .any (fun w args => (Rows.asmProgramsSpec.pre enc Tryz.prog Tryz.f5 [] false w args ∧ laidMetH Tryz.prog Rows.asmProgramsRow.laid w) ∧ sizedMet enc Tryz.prog Tryz.f5 (OpenSpec.ofChange Rows.asmProgramsSpec) false w args)
      (Rows.asmProgramsSpec.post enc Tryz.prog Tryz.f5 false true false false) := by
  refine wrap_shaped (C := Tryz.checked) (X := fun w _ => laidMetH Tryz.prog Rows.asmProgramsRow.laid w) (fun _ _ _ hh h => h.of_heap hh) own started (by kernel_rfl) Tryz.func5
    (ChangeSpec.witness_shaped (enc := enc) (C := Tryz.checked) (os := os) (X := fun w _ => laidMetH Tryz.prog Rows.asmProgramsRow.laid w) false (((World.holding Tryz.prog os ⟨#[], #[], []⟩).setCell ⟨3, 0, none⟩ (.iface 146 (.agg #[.pointer (some ⟨12, 25, none⟩)]))).layVars Tryz.prog plainT) #[.string ⟨#[]⟩] 8 (World.layVars_os _ _ _)
      (World.shaped_of_ZipB (by kernel_rfl) (by kernel_rfl)) (by kernel_rfl) (by kernel_rfl) (by kernel_rfl)
      (laidMetH_of_parts (met_over (l := plainT) _ (by kernel_rfl) (by kernel_rfl)) (by kernel_rfl))) ?_
  intro W base args ds gs before hval0 hW hL hS
  have hval : ∀ (j : Nat) t v, Tryz.f5.params[j]? = some t → args[j]? = some v → Value.okWide Tryz.prog W .any base t v := hval0
  have hW' := hW
  obtain ⟨p, q, hA0, hV, rfl, hfz, hnd⟩ := hW
  have hA : DataW.TrodAll enc Tryz.prog W 0 (fun _ => true) true Tryz.f5.params.toList args.toList ds p := hA0
  rw [Tryz.params5] at hA hval
  obtain ⟨v0, vs0, d0, ds0, p0, q0, hargs, rfl, rfl, h0, r0⟩ := trodAll_cons hA
  obtain ⟨rfl, rfl, rfl⟩ := trodAll_nil r0
  obtain rfl : args = #[v0] := by cases args; simp_all
  obtain ⟨rfl, rfl⟩ := trodVars_none hV
  obtain ⟨s0, rfl, rfl, rfl, w0⟩ := open_string Tryz.underlying9 (hval 0 9 v0 rfl rfl) h0
  have hm0 : s0.size ≤ 9223372036854775807 := by (unfold maxLen at w0; omega)
  clear hA0 hval0
  refine (programs_walk s0 hm0 W (asAt_texts hL hS) (handle_of_met (met_texts hL).2)).mono fun e W' ⟨he, bel⟩ => ?_
  subst he
  exact ⟨_, rfl, _, _, _, [], _, [], hW', trodAll_mk1 (shut_bool Tryz.underlying4 _), (trodAll_cons_mk (shut_string Tryz.underlying9 w0) trodAll_mk0), rfl, bel.frame _, fun h => by cases h⟩

theorem asmPrograms_over : Rows.AsmProgramsSaid :=
  OpenClaim.holds_of_wide 5 Tryz.f5 rfl rfl rfl rfl rfl rfl rfl ⟨rfl, rfl, rfl, rfl, rfl⟩ rfl rfl rfl rfl rfl (by kernel_rfl) Tryz.func5 (by kernel_rfl)
    (of_decide_eq_true (by kernel_rfl)) (by unfold Func.isWrapper; first | (rw [if_pos (by decide +kernel)]; kernel_rfl) | (rw [if_neg (by decide +kernel)]; exact ⟨rfl, rfl⟩))
    (fun os started H enc _ => asmPrograms_lifted os started H enc)

theorem asmPrograms_proved : Rows.AsmProgramsCardSaid :=
  Claim7.holds_tied_plain_at .later [] [.data, .data, .data, .data, .handle, .sentinel, .sentinel, .data, .data, .data, .pinned] true (true, "008fa0dc7819a8aaae1f0985ab1f82f03eec4d87b3d58ff688b1bbda672f1d5f") true
    asmPrograms_over (fun _ h => by cases h) (by kernel_rfl) (fun _ h => by cases h) asmPrograms_row_tie rfl ⟨rfl, rfl⟩ (by kernel_rfl) rfl
    (fun f fn hf hfn => by
      obtain rfl : f = 5 := Option.some.inj ((show Tryz.prog.funcNamed Rows.asmProgramsRow.func = some 5 by kernel_rfl).symm.trans hf) |>.symm
      obtain rfl : fn = Tryz.f5 := (Option.some.inj (Tryz.func5.symm.trans hfn)).symm
      exact ⟨by kernel_rfl, fun j t ht => by
        rw [Tryz.params5] at ht
        have hm : t ∈ [9] := by simpa using Array.mem_of_getElem? ht
        have hall : ([9].all fun u => !Tryz.prog.wantsStandIn u) = true := by kernel_rfl
        exact (show Tryz.prog.wantsStandIn t = false by simpa using List.all_eq_true.1 hall t hm)⟩)
    (by kernel_rfl)
#print axioms asmPrograms_proved
end Go.Proofs.YtoekcfbjdcibpaaGreatDoor
