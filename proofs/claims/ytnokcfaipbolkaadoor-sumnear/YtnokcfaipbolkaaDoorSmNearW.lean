/-
  SumNear, walked.
-/
import Derived.Test.YtnokcfaipbolkaaDoorSmNear
import Derived.Test.YtnokcfaipbolkaaDoorSmThreeW
namespace Go.Proofs.YtnokcfaipbolkaaDoor
open Go.RowKit
set_option linter.unusedVariables false
set_option linter.unusedSimpArgs false

/-- A place: a number below another one. -/
theorem from_lt (at' : Int) (n : Nat) (hn : n ≤ 5000) : ∃ fr : Nat, fr < 8 * (n + 4) ∧ wrap64 ((IntKind.u64.wrap at').tmod (8 * ((n : Int) + 4))) = (fr : Int) := by
  have h0 : 0 ≤ IntKind.u64.wrap at' := by rw [IntKind.wrap_u64]; exact Int.emod_nonneg _ (by decide)
  obtain ⟨q, hq⟩ := Int.eq_ofNat_of_zero_le h0
  have hm := Nat.mod_lt q (show 0 < 8 * (n + 4) by omega)
  refine ⟨q % (8 * (n + 4)), hm, ?_⟩
  rw [hq, show 8 * ((n : Int) + 4) = ((8 * (n + 4) : Nat) : Int) from rfl, show ((q : Int)).tmod ((8 * (n + 4) : Nat) : Int) = ((q % (8 * (n + 4)) : Nat) : Int) from rfl]
  unfold wrap64
  omega
theorem shr_pow (k : Nat) : (128 : Int) / 2 ^ (k % 8) = ((2 ^ (7 - k % 8) : Nat) : Int) := by
  have h : k % 8 < 8 := Nat.mod_lt _ (by decide)
  generalize k % 8 = j at *
  obtain rfl | rfl | rfl | rfl | rfl | rfl | rfl | rfl : j = 0 ∨ j = 1 ∨ j = 2 ∨ j = 3 ∨ j = 4 ∨ j = 5 ∨ j = 6 ∨ j = 7 := by omega
  all_goals rfl
theorem and_one (b i : Nat) (hb : b < 4294967296) : bits .and .u32 ((b : Int) / 2 ^ i) 1 = ((b / 2 ^ i % 2 : Nat) : Int) := by
  have hd : b / 2 ^ i < 2 ^ 32 := Nat.lt_of_le_of_lt (Nat.div_le_self _ _) hb
  have h := (bits_nat .u32 32 (by decide) (fun n h0 h1 => by rw [IntKind.wrap_u32]; omega) (b / 2 ^ i) 1 hd (by decide)).1
  rw [Nat.and_one_is_mod] at h
  rw [← h]
  congr 1
variable {P : Program} {ops : Array Oper} {rest : List Oper} {dst : Option Tmp} {ty t t2 : TypeId} {pos : String} {after : Array Edge} {a : Act} {w : World} {Q : Exit → Act → World → Prop} {K : Act → World → Prop} {x y : Operand} {gd : Option (Nat × Bool)}
theorem ex_quo8 (z : Int) (k : Nat) (hz : z = (k : Nat)) (hk : k ≤ 100000) (hx : a.eval x = .int .i64 z) (w : World) :
    (execOp a.eval ⟨dst, .binOp .quo 3 x (.const (.int .i64 8)) t2, ty, pos, after, gd⟩).run Tryd.prog w = .ok (.value (.int .i64 ((k / 8 : Nat) : Int))) w := by
  subst hz
  have hc : a.eval (.const (.int .i64 8)) = .int .i64 8 := rfl
  unfold execOp
  simp only [hx, hc]
  go_simp
  exact i64_in _ (by omega) (by omega)
theorem ex_rem8 (z : Int) (k : Nat) (hz : z = (k : Nat)) (hk : k ≤ 100000) (hx : a.eval x = .int .i64 z) (w : World) :
    (execOp a.eval ⟨dst, .binOp .rem 3 x (.const (.int .i64 8)) t2, ty, pos, after, gd⟩).run Tryd.prog w = .ok (.value (.int .i64 ((k % 8 : Nat) : Int))) w := by
  subst hz
  have hc : a.eval (.const (.int .i64 8)) = .int .i64 8 := rfl
  unfold execOp
  simp only [hx, hc]
  go_simp
  rfl
theorem ex_shr (k : Nat) (hx : a.eval x = .int .i64 ((k % 8 : Nat) : Int)) (w : World) :
    (execOp a.eval ⟨dst, .binOp .shr 5 (.const (.int .u8 128)) x t2, ty, pos, after, gd⟩).run Tryd.prog w = .ok (.value (.int .u8 ((2 ^ (7 - k % 8) : Nat) : Int))) w := by
  have h8 : k % 8 < 8 := Nat.mod_lt _ (by decide)
  have hc : a.eval (.const (.int .u8 128)) = .int .u8 128 := rfl
  generalize k % 8 = j at *
  unfold execOp
  simp only [hx, hc]
  obtain rfl | rfl | rfl | rfl | rfl | rfl | rfl | rfl : j = 0 ∨ j = 1 ∨ j = 2 ∨ j = 3 ∨ j = 4 ∨ j = 5 ∨ j = 6 ∨ j = 7 := by omega
  all_goals
    simp only [Int.cast_ofNat_Int, Int.natCast_zero, Int.natCast_one]
    go_simp
theorem ex_idx0 (b len cap k : Nat) (hk : k < len) (hx : a.eval x = .slice (some ⟨b, 0, none⟩) len cap) (hy : a.eval y = .int .i64 (k : Nat)) (w : World) :
    (execOp a.eval ⟨dst, .indexAddr 23 x y, ty, pos, after, gd⟩).run Tryd.prog w = .ok (.value (.pointer (some ⟨b, k, none⟩))) w := by
  have := ex_idx (dst := dst) (ty := ty) (pos := pos) (after := after) (gd := gd) b 0 len cap k hk hx hy w
  rwa [Nat.zero_add] at this
theorem ex_ld8 (b j : Nat) (v : Value) (hc : w.cell? ⟨b, j, none⟩ = some v) (hx : a.eval x = .pointer (some ⟨b, j, none⟩)) :
    (execOp a.eval ⟨dst, .load 5 x, ty, pos, after, gd⟩).run Tryd.prog w = .ok (.value v) w := by
  have hrun : (loadVar 5 ⟨b, j, none⟩).run Tryd.prog w = .ok v w := by
    have hagg : (isAgg 5).run Tryd.prog w = .ok false w := by
      unfold isAgg
      rw [Sem.run_bind, run_underlying Tryd.underlying5 w]
      rfl
    simp [loadVar, Sem.run_bind, hagg, hc]
  unfold execOp
  simp only [hx, Instr.loadAt, Instr.sureAddr, Sem.run_bind, Sem.run_pure, Result.andThen_ok, hrun]
theorem ex_isnil (n : Nat) (hx : a.eval x = errS n) (w : World) :
    (execOp a.eval ⟨dst, .binOp .eql 29 x (.const .nilIface) t2, ty, pos, after, gd⟩).run Tryd.prog w = .ok (.value (.bool (decide (n = 0)))) w := by
  have hc : a.eval (.const .nilIface) = .nilIface := rfl
  by_cases h : n = 0
  · subst h
    have hx' : a.eval x = .nilIface := hx
    unfold execOp
    simp only [hx', hc]
    go_simp
  · rw [errS, if_neg h] at hx
    unfold execOp
    simp only [hx, hc, decide_eq_false h]
    go_simp
theorem wp_ex {o : Oper} {v : Value} {w' : World} (h : (execOp a.eval o).run P w = .ok (.value v) w') (k : K (a.put o.dst v) w') : Oper.wp P o a w K Q := by
  unfold Oper.wp
  rw [h, Oper.upon_value]
  exact k
def NeRel (n g cap fr by' N : Nat) (w0 : World) (lt : List Nat) (iv : Value) (wr : World) : Prop := ∃ i : Nat, i ≤ 32 ∧ iv = .int .i64 (i : Nat) ∧ Own N 5 wr (.slice (some ⟨g, 0, none⟩) (n + 4) cap) (nearL lt fr by' i) ∧ Below N w0 wr
set_option maxHeartbeats 4000000 in
theorem near_small {v : Value} {l : List Nat} (w : World) (h : Rd w.heap.size w v l) (hle : l.length ≤ 5000) (at' : Int) (by' : Nat) (hby : by' < 4294967296) (hT : TabAt w) :
    Calls Tryd.prog 6 #[v, .int .i64 at', .int .u32 (by' : Nat)] w fun e w' => e = .returned (.bool true) ∧ Below w.heap.size w w' := by
  have HTA := hide (fun W hR hB hT => tail_any (B := w.heap.size) (v := v) (l := l) W hR hB (by omega) hT)
  have HLT := hide h.lt
  have HLX := hide (show ∀ c ∈ l ++ tail4 (sumL l), c < 256 from fun c hc => by
    rcases List.mem_append.1 hc with h' | h'
    · exact h.lt c h'
    · exact tail4_lt (sumL_lt l) c h')
  have hlen : (l ++ tail4 (sumL l)).length = l.length + 4 := by rw [List.length_append]; rfl
  obtain ⟨fr, hfr, hfrom⟩ := from_lt at' l.length hle
  have HNC := hide (fun i hi => near_cut l h.lt fr by' i hi)
  have HR := hide h
  have HT := hide hT
  obtain ⟨ad, cap, hv, hcap, hmax⟩ := h.form
  subst hv
  have hb : Below w.heap.size w w := Below.refl _ w
  have HTAK := hide (show (l ++ tail4 (sumL l)).take l.length = l by rw [List.take_left])
  generalize l ++ tail4 (sumL l) = lt at *
  obtain ⟨n, hn⟩ : ∃ n, l.length = n := ⟨_, rfl⟩
  rw [hn] at hlen hfr hfrom hle hcap HTAK
  have HLEN := hide hlen
  have HN := hide hn
  rw [hn] at HTA HR
  rw [hn]
  clear h hT hn hlen
  go_enter Tryd.func6, Tryd.ntmps6
  go_wp2_with (first | (go_at_call 15; (with_reducible refine (HTA.out _ HR.out (Nat.le_refl _) HT.out).mono ?_); rintro e W1 ⟨vx, rfl, hox, hb1⟩; replace hb := hb1; obtain ⟨g, cx, hvx, hg, hcx, hcm⟩ := hox.block (by have := HLEN.out; omega); rw [HLEN.out] at hvx hcx; subst hvx; have HX := hide hox; clear hox hb1))
  rw [hfrom]
  clear hfrom
  go_loopw [9] (NeRel n g cx fr by' w.heap.size w lt) (fun iv _ => 32 - (intOf iv).toNat)
  case atStart => exact ⟨0, by decide, rfl, HX.out, hb⟩
  case round =>
    clear hb HX
    obtain ⟨i, hi, rfl, hox, hb⟩ := hrel
    have HX := hide hox
    clear hox
    by_cases hin : i < 32 ∧ fr + i < 8 * (n + 4)
    · obtain ⟨hi1, hi2⟩ := hin
      by_cases hbit : by' / 2 ^ i % 2 = 1
      · have hand := and_one by' i hby
        rw [hbit, show ((1 : Nat) : Int) = 1 from rfl] at hand
        have HNL := hide (near_len lt fr by' i)
        have HNE := hide (show nearL lt fr by' (i + 1) = flipL (nearL lt fr by' i) (fr + i) from if_pos hbit)
        have HFV := hide (flip_val HX.out.lt (fr + i))
        have HGL := hide (getD_lt HX.out.lt ((fr + i) / 8))
        rw [HLEN.out] at HNL
        clear hbit
        go_wp2
        refine wp_region_held_drew (S := (fun U => Below w.heap.size w U)) (by kernel_rfl) ?_ (fun hHeld => ?_)
        · exact hb.drew
        replace HX := hide (⟨HX.out.lt, HX.out.row⟩ : Own w.heap.size 5 wr.drew (.slice (some ⟨g, 0, none⟩) (n + 4) cx) (nearL lt fr by' i))
        clear hb
        generalize wr.drew = V at hHeld HX ⊢
        refine wpAnyH_take (i := 0) (oi := ?oi1) (v := .slice (some ⟨g, 0, none⟩) (n + 4) cx) ?hi1 (by kernel_rfl) (by kernel_rfl) (by kernel_rfl) ?hQ1 ?hy1 (by assumption) ?rest1
        case hi1 => (simp only [List.getElem?_toArray, List.getElem?_cons_zero]; rfl)
        case hQ1 => exact fun _ _ _ h => h
        case hy1 => exact Or.inl ⟨by rfl, by (intro w hSw; (try dsimp only at hSw); go_simp )⟩
        simp only [Act.put, List.setIfInBounds_toArray, List.set_cons_zero, List.set_cons_succ]
        refine wpAnyH_take (i := 1) (oi := ?oi2) (v := .int .i64 ((fr : Int) + (i : Int))) ?hi2 (by kernel_rfl) (by kernel_rfl) (by kernel_rfl) ?hQ2 ?hy2 (by assumption) ?rest2
        case hi2 => (simp only [List.getElem?_toArray, List.getElem?_cons_zero, List.getElem?_cons_succ]; rfl)
        case hQ2 => exact fun _ _ _ h => h
        case hy2 => exact Or.inl ⟨by rfl, by (intro w hSw; (try dsimp only at hSw); go_simp )⟩
        simp only [Act.put, List.setIfInBounds_toArray, List.set_cons_zero, List.set_cons_succ]
        refine wpAnyH_take (i := 2) (oi := ?oi3) (v := .int .i64 (((fr + i) / 8 : Nat) : Int)) ?hi3 (by kernel_rfl) (by kernel_rfl) (by kernel_rfl) ?hQ3 ?hy3 (by assumption) ?rest3
        case hi3 => (simp only [List.getElem?_toArray, List.getElem?_cons_zero, List.getElem?_cons_succ]; rfl)
        case hQ3 => exact fun _ _ _ h => h
        case hy3 => exact Or.inl ⟨by rfl, fun U hU => ex_quo8 _ (fr + i) (Int.natCast_add fr i).symm (by omega) rfl U⟩
        simp only [Act.put, List.setIfInBounds_toArray, List.set_cons_zero, List.set_cons_succ]
        refine wpAnyH_take (i := 3) (oi := ?oi4) (v := .slice (some ⟨g, 0, none⟩) (n + 4) cx) ?hi4 (by kernel_rfl) (by kernel_rfl) (by kernel_rfl) ?hQ4 ?hy4 (by assumption) ?rest4
        case hi4 => (simp only [List.getElem?_toArray, List.getElem?_cons_zero, List.getElem?_cons_succ]; rfl)
        case hQ4 => exact fun _ _ _ h => h
        case hy4 => exact Or.inl ⟨by rfl, by (intro w hSw; (try dsimp only at hSw); go_simp )⟩
        simp only [Act.put, List.setIfInBounds_toArray, List.set_cons_zero, List.set_cons_succ]
        refine wpAnyH_take (i := 4) (oi := ?oi5) (v := .int .i64 ((fr : Int) + (i : Int))) ?hi5 (by kernel_rfl) (by kernel_rfl) (by kernel_rfl) ?hQ5 ?hy5 (by assumption) ?rest5
        case hi5 => (simp only [List.getElem?_toArray, List.getElem?_cons_zero, List.getElem?_cons_succ]; rfl)
        case hQ5 => exact fun _ _ _ h => h
        case hy5 => exact Or.inl ⟨by rfl, by (intro w hSw; (try dsimp only at hSw); go_simp )⟩
        simp only [Act.put, List.setIfInBounds_toArray, List.set_cons_zero, List.set_cons_succ]
        refine wpAnyH_take (i := 5) (oi := ?oi6) (v := .int .i64 (((fr + i) / 8 : Nat) : Int)) ?hi6 (by kernel_rfl) (by kernel_rfl) (by kernel_rfl) ?hQ6 ?hy6 (by assumption) ?rest6
        case hi6 => (simp only [List.getElem?_toArray, List.getElem?_cons_zero, List.getElem?_cons_succ]; rfl)
        case hQ6 => exact fun _ _ _ h => h
        case hy6 => exact Or.inl ⟨by rfl, fun U hU => ex_quo8 _ (fr + i) (Int.natCast_add fr i).symm (by omega) rfl U⟩
        simp only [Act.put, List.setIfInBounds_toArray, List.set_cons_zero, List.set_cons_succ]
        refine wpAnyH_take (i := 6) (oi := ?oi7) (v := .pointer (some ⟨g, (fr + i) / 8, none⟩)) ?hi7 (by kernel_rfl) (by kernel_rfl) (by kernel_rfl) ?hQ7 ?hy7 (by assumption) ?rest7
        case hi7 => (simp only [List.getElem?_toArray, List.getElem?_cons_zero, List.getElem?_cons_succ]; rfl)
        case hQ7 => exact fun _ _ _ h => h
        case hy7 => exact Or.inl ⟨by rfl, fun U hU => ex_idx0 g (n + 4) cx ((fr + i) / 8) (by omega) rfl rfl U⟩
        simp only [Act.put, List.setIfInBounds_toArray, List.set_cons_zero, List.set_cons_succ]
        refine wpAnyH_take (i := 8) (oi := ?oi8) (v := .int .i64 ((fr : Int) + (i : Int))) ?hi8 (by kernel_rfl) (by kernel_rfl) (by kernel_rfl) ?hQ8 ?hy8 (by assumption) ?rest8
        case hi8 => (simp only [List.getElem?_toArray, List.getElem?_cons_zero, List.getElem?_cons_succ]; rfl)
        case hQ8 => exact fun _ _ _ h => h
        case hy8 => exact Or.inl ⟨by rfl, by (intro w hSw; (try dsimp only at hSw); go_simp )⟩
        simp only [Act.put, List.setIfInBounds_toArray, List.set_cons_zero, List.set_cons_succ]
        refine wpAnyH_take (i := 9) (oi := ?oi9) (v := .int .i64 (((fr + i) % 8 : Nat) : Int)) ?hi9 (by kernel_rfl) (by kernel_rfl) (by kernel_rfl) ?hQ9 ?hy9 (by assumption) ?rest9
        case hi9 => (simp only [List.getElem?_toArray, List.getElem?_cons_zero, List.getElem?_cons_succ]; rfl)
        case hQ9 => exact fun _ _ _ h => h
        case hy9 => exact Or.inl ⟨by rfl, fun U hU => ex_rem8 _ (fr + i) (Int.natCast_add fr i).symm (by omega) rfl U⟩
        simp only [Act.put, List.setIfInBounds_toArray, List.set_cons_zero, List.set_cons_succ]
        refine wpAnyH_take (i := 10) (oi := ?oi10) (v := .int .u8 ((2 ^ (7 - (fr + i) % 8) : Nat) : Int)) ?hi10 (by kernel_rfl) (by kernel_rfl) (by kernel_rfl) ?hQ10 ?hy10 (by assumption) ?rest10
        case hi10 => (simp only [List.getElem?_toArray, List.getElem?_cons_zero, List.getElem?_cons_succ]; rfl)
        case hQ10 => exact fun _ _ _ h => h
        case hy10 => exact Or.inl ⟨by rfl, fun U hU => ex_shr (fr + i) rfl U⟩
        simp only [Act.put, List.setIfInBounds_toArray, List.set_cons_zero, List.set_cons_succ]
        refine wpAnyH_ready (rs := [7]) (by kernel_rfl) (by simp) ?_
        refine AllReadyH.cons (o := ?oi11) ?hi11 (fun K hK => ?_) AllReadyH.nil
        case hi11 => (simp only [List.getElem?_toArray, List.getElem?_cons_zero, List.getElem?_cons_succ]; rfl)
        rw [if_pos (by rfl)]
        refine wp_ex (ex_ld8 g ((fr + i) / 8) _ (HX.out.cell ((fr + i) / 8) (by rw [HNL.out]; omega)) rfl) ?_
        refine hK.out _ _ ?_ (fun hHeld => ?_)
        · exact hHeld
        clear hK K
        refine wpAnyH_take (i := 11) (oi := ?oi12) (v := .int .u8 (((nearL lt fr by' i).getD ((fr + i) / 8) 0 ^^^ 2 ^ (7 - (fr + i) % 8) : Nat) : Int)) ?hi12 (by kernel_rfl) (by kernel_rfl) (by kernel_rfl) ?hQ12 ?hy12 (by assumption) ?rest12
        case hi12 => (simp only [List.getElem?_toArray, List.getElem?_cons_zero, List.getElem?_cons_succ]; rfl)
        case hQ12 => exact fun _ _ _ h => h
        case hy12 => exact Or.inl ⟨by rfl, fun U hU => ex_xor8 _ _ HGL.out (pow_small (fr + i)) rfl rfl U⟩
        simp only [Act.put, List.setIfInBounds_toArray, List.set_cons_zero, List.set_cons_succ]
        refine wpAnyH_take (i := 12) (oi := ?oi13) (v := .pointer (some ⟨g, (fr + i) / 8, none⟩)) ?hi13 (by kernel_rfl) (by kernel_rfl) (by kernel_rfl) ?hQ13 ?hy13 (by assumption) ?rest13
        case hi13 => (simp only [List.getElem?_toArray, List.getElem?_cons_zero, List.getElem?_cons_succ]; rfl)
        case hQ13 => exact fun _ _ _ h => h
        case hy13 => exact Or.inl ⟨by rfl, fun U hU => ex_idx0 g (n + 4) cx ((fr + i) / 8) (by omega) rfl rfl U⟩
        simp only [Act.put, List.setIfInBounds_toArray, List.set_cons_zero, List.set_cons_succ]
        have HX2 := HX.out
        rw [← HNL.out] at HX2
        refine wpAnyH_ready (rs := [13]) (by kernel_rfl) (by simp) ?_
        refine AllReadyH.cons (o := ?oi14) ?hi14 (fun K hK => ?_) AllReadyH.nil
        case hi14 => (simp only [List.getElem?_toArray, List.getElem?_cons_zero, List.getElem?_cons_succ]; rfl)
        rw [if_pos (by rfl)]
        refine wp_set HX2 ((fr + i) / 8) _ (by rw [HNL.out]; omega) HFV.out size_u8 rfl rfl ?_
        intro V2 hox ho
        have hb := ho.bel _ _ hg hHeld
        refine hK.out _ _ ?_ (fun hHeld => ?_)
        · exact hb
        clear hK K
        refine wpAnyH_done (by kernel_rfl) ?_ _
        rw [HNL.out] at hox
        have hox2 : Own w.heap.size 5 V2 (.slice (some ⟨g, 0, none⟩) (n + 4) cx) (nearL lt fr by' (i + 1)) := by rw [HNE.out]; exact hox
        clear hHeld HX2 hox hand
        go_wp2
        go_roundw
        case rel => exact ⟨i + 1, hi1, by go_num, hox2, hb⟩
        case measure => simp [intOf]; omega
      · have hand := and_one by' i hby
        rw [show by' / 2 ^ i % 2 = 0 by omega, show ((0 : Nat) : Int) = 0 from rfl] at hand
        have HNE := hide (show nearL lt fr by' (i + 1) = nearL lt fr by' i from if_neg hbit)
        clear hbit
        go_wp2
        go_roundw
        case rel => exact ⟨i + 1, hi1, by go_num, by rw [HNE.out]; exact HX.out, hb⟩
        case measure => simp [intOf]; omega
    · have HEN := hide (HNC.out i hi)
      have HYN := hide ((near_len lt fr by' i).trans HLEN.out)
      have HTKL := hide (fun (h : nearL lt fr by' i = lt) => show (nearL lt fr by' i).take n = l by rw [h, HTAK.out])
      clear HNC
      generalize nearL lt fr by' i = y at *
      have HCU := hide (fun (B : Nat) (W : World) (hR : Rd B W (.slice (some ⟨g, 0, none⟩) (n + 4) cx) y) (hB : B ≤ W.heap.size) (hT : TabAt W) => cutu_any W hR hB (by rw [HYN.out]; omega) hT)
      have HSU := hide (fun w hT => sure_any w hT)
      have hi3 : i = 32 ∨ (i < 32 ∧ 8 * (n + 4) ≤ fr + i) := by omega
      clear hin
      have hk0 : fr / 8 % (n + 1) ≤ n := by have := Nat.mod_lt (fr / 8) (show 0 < n + 1 by omega); omega
      obtain ⟨k0, hk00⟩ : ∃ k0, fr / 8 % (n + 1) = k0 := ⟨_, rfl⟩
      rw [hk00] at hk0
      have hkI : (fr : Int) / 8 % ((n : Int) + 1) = (k0 : Int) := by rw [← hk00]; rfl
      have HK0 := hide (show k0 ≤ l.length by rw [HN.out]; exact hk0)
      have HK1 := hide (HR.out.to HK0.out)
      have hF := HR.out.frm HK0.out
      obtain ⟨vF, hvF⟩ : ∃ vF, sFrom (.slice ad n cap) k0 = vF := ⟨_, rfl⟩
      rw [hvF] at hF
      have HVF := hide hvF
      have HF := hide hF
      have HOF1 := hide (fun W hR hT => of_any (B := w.heap.size) (v := .slice ad k0 cap) (l := l.take k0) W hR hT)
      have HOF2 := hide (fun W hR hT => of_any (B := w.heap.size) (v := .slice ad n cap) (l := l) W hR hT)
      have HMF := hide (fun W hR hT => more_any (sumL (l.take k0)) (sumL_lt _) (B := w.heap.size) (v := vF) (l := l.drop k0) W hR hT)
      have hsum : crcL (l.drop k0) (sumL (l.take k0)) = sumL l := by
        unfold sumL
        rw [← crcL_app, List.take_append_drop]
      rw [hsum] at HMF
      generalize sumL (l.take k0) = s1 at *
      generalize sumL l = s0 at *
      clear hk00 hk0 hvF hF hsum
      by_cases hA : y.take n = l
      · have HD1 := hide (decide_eq_true hA)
        obtain ⟨sm, hsm⟩ : ∃ b, decide (y = lt) = b := ⟨_, rfl⟩
        rw [hsm] at HEN
        have HD2 := hide hsm
        clear hA hsm HTKL
        rcases hi3 with rfl | ⟨hi4, hi5⟩
        · replace HT := hide (HT.out.below hb)
          have HXR := hide HX.out.rd
          have HYL := hide (show n ≤ y.length by have := HYN.out; omega)
          go_wp2
          refine wp_region_held_drew (S := (fun U => Below wr.heap.size wr U)) (by kernel_rfl) ?_ (fun hHeld => ?_)
          · exact (Below.refl _ wr).drew
          generalize wr.drew = V at hHeld ⊢
          replace hb := below_bl rfl hb hHeld
          replace HXR := hide (HXR.out.bel hHeld).top
          replace HT := hide (HT.out.below hHeld)
          refine wpAnyH_more (S' := fun U => Below V.heap.size V U) (fun U h => hHeld.trans (h.mono hHeld.size)) _ _ _ _ ?_
          clear hHeld
          have hHeld := Below.refl V.heap.size V
          have HXT := hide (HXR.out.to HYL.out)
          refine wpAnyH_take (i := 0) (oi := ?oi15) (v := .slice (some ⟨g, 0, none⟩) (n + 4) cx) ?hi15 (by kernel_rfl) (by kernel_rfl) (by kernel_rfl) ?hQ15 ?hy15 (by assumption) ?rest15
          case hi15 => (simp only [List.getElem?_toArray, List.getElem?_cons_zero]; rfl)
          case hQ15 => exact fun _ _ _ h => h
          case hy15 => exact Or.inl ⟨by rfl, by (intro w hSw; (try dsimp only at hSw); go_simp )⟩
          simp only [Act.put, List.setIfInBounds_toArray, List.set_cons_zero, List.set_cons_succ]
          refine wpAnyH_take (i := 1) (oi := ?oi16) (v := .slice ad n cap) ?hi16 (by kernel_rfl) (by kernel_rfl) (by kernel_rfl) ?hQ16 ?hy16 (by assumption) ?rest16
          case hi16 => (simp only [List.getElem?_toArray, List.getElem?_cons_zero, List.getElem?_cons_succ]; rfl)
          case hQ16 => exact fun _ _ _ h => h
          case hy16 => exact Or.inl ⟨by rfl, by (intro w hSw; (try dsimp only at hSw); go_simp )⟩
          simp only [Act.put, List.setIfInBounds_toArray, List.set_cons_zero, List.set_cons_succ]
          refine wpAnyH_take (i := 2) (oi := ?oi17) (v := .int .i64 (n : Nat)) ?hi17 (by kernel_rfl) (by kernel_rfl) (by kernel_rfl) ?hQ17 ?hy17 (by assumption) ?rest17
          case hi17 => (simp only [List.getElem?_toArray, List.getElem?_cons_zero, List.getElem?_cons_succ]; rfl)
          case hQ17 => exact fun _ _ _ h => h
          case hy17 => exact Or.inl ⟨by rfl, by (intro w hSw; (try dsimp only at hSw); go_simp )⟩
          simp only [Act.put, List.setIfInBounds_toArray, List.set_cons_zero, List.set_cons_succ]
          refine wpAnyH_take (i := 3) (oi := ?oi18) (v := .slice (some ⟨g, 0, none⟩) n cx) ?hi18 (by kernel_rfl) (by kernel_rfl) (by kernel_rfl) ?hQ18 ?hy18 (by assumption) ?rest18
          case hi18 => (simp only [List.getElem?_toArray, List.getElem?_cons_zero, List.getElem?_cons_succ]; rfl)
          case hQ18 => exact fun _ _ _ h => h
          case hy18 => exact Or.inl ⟨by rfl, fun U hU => ex_to HXR.out HYL.out und_sl siz_sl rfl rfl U⟩
          simp only [Act.put, List.setIfInBounds_toArray, List.set_cons_zero, List.set_cons_succ]
          refine wpAnyH_take (i := 4) (oi := ?oi19) (v := .string (strB (y.take n))) ?hi19 (by kernel_rfl) (by kernel_rfl) (by kernel_rfl) ?hQ19 ?hy19 (by assumption) ?rest19
          case hi19 => (simp only [List.getElem?_toArray, List.getElem?_cons_zero, List.getElem?_cons_succ]; rfl)
          case hQ19 => exact fun _ _ _ h => h
          case hy19 => exact Or.inl ⟨by rfl, fun U hU => ex_str (HXT.out.bel hU) 5 Tryd.underlying23 Tryd.underlying5 und_str rfl⟩
          simp only [Act.put, List.setIfInBounds_toArray, List.set_cons_zero, List.set_cons_succ]
          refine wpAnyH_take (i := 5) (oi := ?oi20) (v := .slice ad n cap) ?hi20 (by kernel_rfl) (by kernel_rfl) (by kernel_rfl) ?hQ20 ?hy20 (by assumption) ?rest20
          case hi20 => (simp only [List.getElem?_toArray, List.getElem?_cons_zero, List.getElem?_cons_succ]; rfl)
          case hQ20 => exact fun _ _ _ h => h
          case hy20 => exact Or.inl ⟨by rfl, by (intro w hSw; (try dsimp only at hSw); go_simp )⟩
          simp only [Act.put, List.setIfInBounds_toArray, List.set_cons_zero, List.set_cons_succ]
          refine wpAnyH_take (i := 6) (oi := ?oi21) (v := .string (strB l)) ?hi21 (by kernel_rfl) (by kernel_rfl) (by kernel_rfl) ?hQ21 ?hy21 (by assumption) ?rest21
          case hi21 => (simp only [List.getElem?_toArray, List.getElem?_cons_zero, List.getElem?_cons_succ]; rfl)
          case hQ21 => exact fun _ _ _ h => h
          case hy21 => exact Or.inl ⟨by rfl, fun U hU => ex_str (HR.out.bel (hb.trans (hU.mono hb.size))) 5 Tryd.underlying23 Tryd.underlying5 und_str rfl⟩
          simp only [Act.put, List.setIfInBounds_toArray, List.set_cons_zero, List.set_cons_succ]
          refine wpAnyH_take (i := 7) (oi := ?oi22) (v := .bool true) ?hi22 (by kernel_rfl) (by kernel_rfl) (by kernel_rfl) ?hQ22 ?hy22 (by assumption) ?rest22
          case hi22 => (simp only [List.getElem?_toArray, List.getElem?_cons_zero, List.getElem?_cons_succ]; rfl)
          case hQ22 => exact fun _ _ _ h => h
          case hy22 => exact Or.inl ⟨by rfl, fun U hU => (ex_seq (strB (y.take n)) (strB l) rfl rfl U).trans (by rw [strB_inj HXT.out.lt HLT.out, HD1.out])⟩
          simp only [Act.put, List.setIfInBounds_toArray, List.set_cons_zero, List.set_cons_succ]
          refine wpAnyH_take (i := 8) (oi := ?oi23) (v := .bool true) ?hi23 (by kernel_rfl) (by kernel_rfl) (by kernel_rfl) ?hQ23 ?hy23 (by assumption) ?rest23
          case hi23 => (simp only [List.getElem?_toArray, List.getElem?_cons_zero, List.getElem?_cons_succ]; rfl)
          case hQ23 => exact fun _ _ _ h => h
          case hy23 => exact Or.inl ⟨by rfl, by (intro w hSw; (try dsimp only at hSw); go_simp )⟩
          simp only [Act.put, List.setIfInBounds_toArray, List.set_cons_zero, List.set_cons_succ]
          refine wpAnyH_take (i := 9) (oi := ?oi24) (v := .slice (some ⟨g, 0, none⟩) (n + 4) cx) ?hi24 (by kernel_rfl) (by kernel_rfl) (by kernel_rfl) ?hQ24 ?hy24 (by assumption) ?rest24
          case hi24 => (simp only [List.getElem?_toArray, List.getElem?_cons_zero, List.getElem?_cons_succ]; rfl)
          case hQ24 => exact fun _ _ _ h => h
          case hy24 => exact Or.inl ⟨by rfl, by (intro w hSw; (try dsimp only at hSw); go_simp )⟩
          simp only [Act.put, List.setIfInBounds_toArray, List.set_cons_zero, List.set_cons_succ]
          refine wpAnyH_take (i := 10) (oi := ?oi25) (v := .string (strB y)) ?hi25 (by kernel_rfl) (by kernel_rfl) (by kernel_rfl) ?hQ25 ?hy25 (by assumption) ?rest25
          case hi25 => (simp only [List.getElem?_toArray, List.getElem?_cons_zero, List.getElem?_cons_succ]; rfl)
          case hQ25 => exact fun _ _ _ h => h
          case hy25 => exact Or.inl ⟨by rfl, fun U hU => ex_str (HXR.out.bel hU) 5 Tryd.underlying23 Tryd.underlying5 und_str rfl⟩
          simp only [Act.put, List.setIfInBounds_toArray, List.set_cons_zero, List.set_cons_succ]
          refine wpAnyH_take (i := 11) (oi := ?oi26) (v := .slice ad n cap) ?hi26 (by kernel_rfl) (by kernel_rfl) (by kernel_rfl) ?hQ26 ?hy26 (by assumption) ?rest26
          case hi26 => (simp only [List.getElem?_toArray, List.getElem?_cons_zero, List.getElem?_cons_succ]; rfl)
          case hQ26 => exact fun _ _ _ h => h
          case hy26 => exact Or.inl ⟨by rfl, by (intro w hSw; (try dsimp only at hSw); go_simp )⟩
          simp only [Act.put, List.setIfInBounds_toArray, List.set_cons_zero, List.set_cons_succ]
          refine wpAnyH_ready (rs := [12]) (by kernel_rfl) (by simp) ?_
          refine AllReadyH.cons (o := ?oi27) ?hi27 (fun K hK => ?_) AllReadyH.nil
          case hi27 => (simp only [List.getElem?_toArray, List.getElem?_cons_zero, List.getElem?_cons_succ]; rfl)
          rw [if_pos (by rfl)]
          go_simp
          refine (HTA.out _ (HR.out.bel hb) hb.size HT.out).mono ?_
          rintro e V2 ⟨vt2, rfl, hot, hbc⟩
          go_simp
          refine hK.out _ _ ?_ (fun hHeld => ?_)
          · exact hbc
          clear hK K
          clear hHeld
          replace hb := below_bl rfl hb hbc
          replace HXR := hide (HXR.out.bel hbc).top
          replace HT := hide (HT.out.below hbc)
          have HO1 := hide hot.rd
          clear hot
          refine wpAnyH_more (S' := fun U => Below V2.heap.size V2 U) (fun U h => hbc.trans (h.mono hbc.size)) _ _ _ _ ?_
          clear hbc
          have hHeld := Below.refl V2.heap.size V2
          refine wpAnyH_take (i := 13) (oi := ?oi28) (v := .string (strB lt)) ?hi28 (by kernel_rfl) (by kernel_rfl) (by kernel_rfl) ?hQ28 ?hy28 (by assumption) ?rest28
          case hi28 => (simp only [List.getElem?_toArray, List.getElem?_cons_zero, List.getElem?_cons_succ]; rfl)
          case hQ28 => exact fun _ _ _ h => h
          case hy28 => exact Or.inl ⟨by rfl, fun U hU => ex_str (HO1.out.bel hU) 5 Tryd.underlying23 Tryd.underlying5 und_str rfl⟩
          simp only [Act.put, List.setIfInBounds_toArray, List.set_cons_zero, List.set_cons_succ]
          refine wpAnyH_take (i := 14) (oi := ?oi29) (v := .bool sm) ?hi29 (by kernel_rfl) (by kernel_rfl) (by kernel_rfl) ?hQ29 ?hy29 (by assumption) ?rest29
          case hi29 => (simp only [List.getElem?_toArray, List.getElem?_cons_zero, List.getElem?_cons_succ]; rfl)
          case hQ29 => exact fun _ _ _ h => h
          case hy29 => exact Or.inl ⟨by rfl, fun U hU => (ex_seq (strB y) (strB lt) rfl rfl U).trans (by rw [strB_inj HXR.out.lt HO1.out.lt, HD2.out])⟩
          simp only [Act.put, List.setIfInBounds_toArray, List.set_cons_zero, List.set_cons_succ]
          refine wpAnyH_take (i := 15) (oi := ?oi30) (v := .bool sm) ?hi30 (by kernel_rfl) (by kernel_rfl) (by kernel_rfl) ?hQ30 ?hy30 (by assumption) ?rest30
          case hi30 => (simp only [List.getElem?_toArray, List.getElem?_cons_zero, List.getElem?_cons_succ]; rfl)
          case hQ30 => exact fun _ _ _ h => h
          case hy30 => exact Or.inl ⟨by rfl, by (intro w hSw; go_simp)⟩
          simp only [Act.put, List.setIfInBounds_toArray, List.set_cons_zero, List.set_cons_succ]
          refine wpAnyH_take (i := 16) (oi := ?oi31) (v := .bool sm) ?hi31 (by kernel_rfl) (by kernel_rfl) (by kernel_rfl) ?hQ31 ?hy31 (by assumption) ?rest31
          case hi31 => (simp only [List.getElem?_toArray, List.getElem?_cons_zero, List.getElem?_cons_succ]; rfl)
          case hQ31 => exact fun _ _ _ h => h
          case hy31 => exact Or.inl ⟨by rfl, by (intro w hSw; (try dsimp only at hSw); go_simp )⟩
          simp only [Act.put, List.setIfInBounds_toArray, List.set_cons_zero, List.set_cons_succ]
          refine wpAnyH_done (by kernel_rfl) ?_ _
          clear hHeld
          go_wp2_with (go_at_call 13; (with_reducible refine (HCU.out _ _ HXR.out (Nat.le_refl _) HT.out).mono ?_); rintro e W5 ⟨v5, rfl, _, hbc⟩; replace hb := below_bl rfl hb hbc; replace HT := hide (HT.out.below hbc); clear hbc)
          refine wp_region_held_drew (S := (fun U => Below W5.heap.size W5 U)) (by kernel_rfl) ?_ (fun hHeld => ?_)
          · exact (Below.refl _ W5).drew
          generalize W5.drew = V5 at hHeld ⊢
          replace hb := below_bl rfl hb hHeld
          replace HT := hide (HT.out.below hHeld)
          refine wpAnyH_more (S' := fun U => Below V5.heap.size V5 U) (fun U h => hHeld.trans (h.mono hHeld.size)) _ _ _ _ ?_
          clear hHeld
          have hHeld := Below.refl V5.heap.size V5
          refine wpAnyH_take (i := 0) (oi := ?oi32) (v := errS (cutE y)) ?hi32 (by kernel_rfl) (by kernel_rfl) (by kernel_rfl) ?hQ32 ?hy32 (by assumption) ?rest32
          case hi32 => (simp only [List.getElem?_toArray, List.getElem?_cons_zero]; rfl)
          case hQ32 => exact fun _ _ _ h => h
          case hy32 => exact Or.inl ⟨by rfl, by (intro w hSw; (try dsimp only at hSw); go_simp )⟩
          simp only [Act.put, List.setIfInBounds_toArray, List.set_cons_zero, List.set_cons_succ]
          refine wpAnyH_take (i := 1) (oi := ?oi33) (v := .bool sm) ?hi33 (by kernel_rfl) (by kernel_rfl) (by kernel_rfl) ?hQ33 ?hy33 (by assumption) ?rest33
          case hi33 => (simp only [List.getElem?_toArray, List.getElem?_cons_zero, List.getElem?_cons_succ]; rfl)
          case hQ33 => exact fun _ _ _ h => h
          case hy33 => exact Or.inl ⟨by rfl, fun U hU => (ex_isnil (cutE y) rfl U).trans (by rw [HEN.out])⟩
          simp only [Act.put, List.setIfInBounds_toArray, List.set_cons_zero, List.set_cons_succ]
          refine wpAnyH_take (i := 2) (oi := ?oi34) (v := .bool sm) ?hi34 (by kernel_rfl) (by kernel_rfl) (by kernel_rfl) ?hQ34 ?hy34 (by assumption) ?rest34
          case hi34 => (simp only [List.getElem?_toArray, List.getElem?_cons_zero, List.getElem?_cons_succ]; rfl)
          case hQ34 => exact fun _ _ _ h => h
          case hy34 => exact Or.inl ⟨by rfl, by (intro w hSw; (try dsimp only at hSw); go_simp )⟩
          simp only [Act.put, List.setIfInBounds_toArray, List.set_cons_zero, List.set_cons_succ]
          refine wpAnyH_take (i := 3) (oi := ?oi35) (v := .bool true) ?hi35 (by kernel_rfl) (by kernel_rfl) (by kernel_rfl) ?hQ35 ?hy35 (by assumption) ?rest35
          case hi35 => (simp only [List.getElem?_toArray, List.getElem?_cons_zero, List.getElem?_cons_succ]; rfl)
          case hQ35 => exact fun _ _ _ h => h
          case hy35 => exact Or.inl ⟨by rfl, by (intro w hSw; go_simp)⟩
          simp only [Act.put, List.setIfInBounds_toArray, List.set_cons_zero, List.set_cons_succ]
          refine wpAnyH_take (i := 4) (oi := ?oi36) (v := .bool true) ?hi36 (by kernel_rfl) (by kernel_rfl) (by kernel_rfl) ?hQ36 ?hy36 (by assumption) ?rest36
          case hi36 => (simp only [List.getElem?_toArray, List.getElem?_cons_zero, List.getElem?_cons_succ]; rfl)
          case hQ36 => exact fun _ _ _ h => h
          case hy36 => exact Or.inl ⟨by rfl, by (intro w hSw; (try dsimp only at hSw); go_simp )⟩
          simp only [Act.put, List.setIfInBounds_toArray, List.set_cons_zero, List.set_cons_succ]
          refine wpAnyH_take (i := 5) (oi := ?oi37) (v := .slice ad n cap) ?hi37 (by kernel_rfl) (by kernel_rfl) (by kernel_rfl) ?hQ37 ?hy37 (by assumption) ?rest37
          case hi37 => (simp only [List.getElem?_toArray, List.getElem?_cons_zero, List.getElem?_cons_succ]; rfl)
          case hQ37 => exact fun _ _ _ h => h
          case hy37 => exact Or.inl ⟨by rfl, by (intro w hSw; (try dsimp only at hSw); go_simp )⟩
          simp only [Act.put, List.setIfInBounds_toArray, List.set_cons_zero, List.set_cons_succ]
          refine wpAnyH_take (i := 6) (oi := ?oi38) (v := .int .i64 (k0 : Nat)) ?hi38 (by kernel_rfl) (by kernel_rfl) (by kernel_rfl) ?hQ38 ?hy38 (by assumption) ?rest38
          case hi38 => (simp only [List.getElem?_toArray, List.getElem?_cons_zero, List.getElem?_cons_succ]; rfl)
          case hQ38 => exact fun _ _ _ h => h
          case hy38 => exact Or.inl ⟨by rfl, by (intro w hSw; go_simp)⟩
          simp only [Act.put, List.setIfInBounds_toArray, List.set_cons_zero, List.set_cons_succ]
          refine wpAnyH_take (i := 7) (oi := ?oi39) (v := .slice ad k0 cap) ?hi39 (by kernel_rfl) (by kernel_rfl) (by kernel_rfl) ?hQ39 ?hy39 (by assumption) ?rest39
          case hi39 => (simp only [List.getElem?_toArray, List.getElem?_cons_zero, List.getElem?_cons_succ]; rfl)
          case hQ39 => exact fun _ _ _ h => h
          case hy39 => exact Or.inl ⟨by rfl, fun U hU => ex_to HR.out HK0.out und_sl siz_sl rfl rfl U⟩
          simp only [Act.put, List.setIfInBounds_toArray, List.set_cons_zero, List.set_cons_succ]
          refine wpAnyH_take (i := 9) (oi := ?oi40) (v := .slice ad n cap) ?hi40 (by kernel_rfl) (by kernel_rfl) (by kernel_rfl) ?hQ40 ?hy40 (by assumption) ?rest40
          case hi40 => (simp only [List.getElem?_toArray, List.getElem?_cons_zero, List.getElem?_cons_succ]; rfl)
          case hQ40 => exact fun _ _ _ h => h
          case hy40 => exact Or.inl ⟨by rfl, by (intro w hSw; (try dsimp only at hSw); go_simp )⟩
          simp only [Act.put, List.setIfInBounds_toArray, List.set_cons_zero, List.set_cons_succ]
          refine wpAnyH_take (i := 10) (oi := ?oi41) (v := .int .i64 (k0 : Nat)) ?hi41 (by kernel_rfl) (by kernel_rfl) (by kernel_rfl) ?hQ41 ?hy41 (by assumption) ?rest41
          case hi41 => (simp only [List.getElem?_toArray, List.getElem?_cons_zero, List.getElem?_cons_succ]; rfl)
          case hQ41 => exact fun _ _ _ h => h
          case hy41 => exact Or.inl ⟨by rfl, by (intro w hSw; go_simp)⟩
          simp only [Act.put, List.setIfInBounds_toArray, List.set_cons_zero, List.set_cons_succ]
          refine wpAnyH_take (i := 11) (oi := ?oi42) (v := vF) ?hi42 (by kernel_rfl) (by kernel_rfl) (by kernel_rfl) ?hQ42 ?hy42 (by assumption) ?rest42
          case hi42 => (simp only [List.getElem?_toArray, List.getElem?_cons_zero, List.getElem?_cons_succ]; rfl)
          case hQ42 => exact fun _ _ _ h => h
          case hy42 => exact Or.inl ⟨by rfl, fun U hU => (ex_frm HR.out HK0.out und_sl siz_sl rfl rfl U).trans (by rw [HVF.out])⟩
          simp only [Act.put, List.setIfInBounds_toArray, List.set_cons_zero, List.set_cons_succ]
          refine wpAnyH_take (i := 13) (oi := ?oi43) (v := .slice ad n cap) ?hi43 (by kernel_rfl) (by kernel_rfl) (by kernel_rfl) ?hQ43 ?hy43 (by assumption) ?rest43
          case hi43 => (simp only [List.getElem?_toArray, List.getElem?_cons_zero, List.getElem?_cons_succ]; rfl)
          case hQ43 => exact fun _ _ _ h => h
          case hy43 => exact Or.inl ⟨by rfl, by (intro w hSw; (try dsimp only at hSw); go_simp )⟩
          simp only [Act.put, List.setIfInBounds_toArray, List.set_cons_zero, List.set_cons_succ]
          refine wpAnyH_ready (rs := [8]) (by kernel_rfl) (by simp) ?_
          refine AllReadyH.cons (o := ?oi44) ?hi44 (fun K hK => ?_) AllReadyH.nil
          case hi44 => (simp only [List.getElem?_toArray, List.getElem?_cons_zero, List.getElem?_cons_succ]; rfl)
          rw [if_pos (by rfl)]
          go_simp
          refine (HOF1.out _ (HK1.out.bel hb) HT.out).mono ?_
          rintro e V6 ⟨rfl, rfl⟩
          go_simp
          refine hK.out _ _ ?_ (fun hHeld => ?_)
          · exact hHeld
          clear hK K
          refine wpAnyH_ready (rs := [12]) (by kernel_rfl) (by simp) ?_
          refine AllReadyH.cons (o := ?oi45) ?hi45 (fun K hK => ?_) AllReadyH.nil
          case hi45 => (simp only [List.getElem?_toArray, List.getElem?_cons_zero, List.getElem?_cons_succ]; rfl)
          rw [if_pos (by rfl)]
          go_simp
          refine (HMF.out _ (HF.out.bel hb) HT.out).mono ?_
          rintro e V7 ⟨rfl, rfl⟩
          go_simp
          refine hK.out _ _ ?_ (fun hHeld => ?_)
          · exact hHeld
          clear hK K
          refine wpAnyH_ready (rs := [14]) (by kernel_rfl) (by simp) ?_
          refine AllReadyH.cons (o := ?oi46) ?hi46 (fun K hK => ?_) AllReadyH.nil
          case hi46 => (simp only [List.getElem?_toArray, List.getElem?_cons_zero, List.getElem?_cons_succ]; rfl)
          rw [if_pos (by rfl)]
          go_simp
          refine (HOF2.out _ (HR.out.bel hb) HT.out).mono ?_
          rintro e V8 ⟨rfl, rfl⟩
          go_simp
          refine hK.out _ _ ?_ (fun hHeld => ?_)
          · exact hHeld
          clear hK K
          refine wpAnyH_take (i := 15) (oi := ?oi47) (v := .bool true) ?hi47 (by kernel_rfl) (by kernel_rfl) (by kernel_rfl) ?hQ47 ?hy47 (by assumption) ?rest47
          case hi47 => (simp only [List.getElem?_toArray, List.getElem?_cons_zero, List.getElem?_cons_succ]; rfl)
          case hQ47 => exact fun _ _ _ h => h
          case hy47 => exact Or.inl ⟨by rfl, by (intro w hSw; go_simp)⟩
          simp only [Act.put, List.setIfInBounds_toArray, List.set_cons_zero, List.set_cons_succ]
          refine wpAnyH_take (i := 16) (oi := ?oi48) (v := .bool true) ?hi48 (by kernel_rfl) (by kernel_rfl) (by kernel_rfl) ?hQ48 ?hy48 (by assumption) ?rest48
          case hi48 => (simp only [List.getElem?_toArray, List.getElem?_cons_zero, List.getElem?_cons_succ]; rfl)
          case hQ48 => exact fun _ _ _ h => h
          case hy48 => exact Or.inl ⟨by rfl, by (intro w hSw; (try dsimp only at hSw); go_simp )⟩
          simp only [Act.put, List.setIfInBounds_toArray, List.set_cons_zero, List.set_cons_succ]
          refine wpAnyH_take (i := 17) (oi := ?oi49) (v := .bool true) ?hi49 (by kernel_rfl) (by kernel_rfl) (by kernel_rfl) ?hQ49 ?hy49 (by assumption) ?rest49
          case hi49 => (simp only [List.getElem?_toArray, List.getElem?_cons_zero, List.getElem?_cons_succ]; rfl)
          case hQ49 => exact fun _ _ _ h => h
          case hy49 => exact Or.inl ⟨by rfl, by (intro w hSw; (try dsimp only at hSw); go_simp )⟩
          simp only [Act.put, List.setIfInBounds_toArray, List.set_cons_zero, List.set_cons_succ]
          refine wpAnyH_ready (rs := [18]) (by kernel_rfl) (by simp) ?_
          refine AllReadyH.cons (o := ?oi50) ?hi50 (fun K hK => ?_) AllReadyH.nil
          case hi50 => (simp only [List.getElem?_toArray, List.getElem?_cons_zero, List.getElem?_cons_succ]; rfl)
          rw [if_pos (by rfl)]
          go_simp
          refine (HSU.out _ HT.out).mono ?_
          rintro e V9 ⟨rfl, hbc⟩
          go_simp
          refine hK.out _ _ ?_ (fun hHeld => ?_)
          · exact hbc
          clear hK K
          clear hHeld
          replace hb := below_bl rfl hb hbc
          refine wpAnyH_more (S' := fun U => Below V9.heap.size V9 U) (fun U h => hbc.trans (h.mono hbc.size)) _ _ _ _ ?_
          clear hbc
          have hHeld := Below.refl V9.heap.size V9
          refine wpAnyH_take (i := 19) (oi := ?oi51) (v := .bool true) ?hi51 (by kernel_rfl) (by kernel_rfl) (by kernel_rfl) ?hQ51 ?hy51 (by assumption) ?rest51
          case hi51 => (simp only [List.getElem?_toArray, List.getElem?_cons_zero, List.getElem?_cons_succ]; rfl)
          case hQ51 => exact fun _ _ _ h => h
          case hy51 => exact Or.inl ⟨by rfl, by (intro w hSw; (try dsimp only at hSw); go_simp )⟩
          simp only [Act.put, List.setIfInBounds_toArray, List.set_cons_zero, List.set_cons_succ]
          refine wpAnyH_take (i := 20) (oi := ?oi52) (v := .bool true) ?hi52 (by kernel_rfl) (by kernel_rfl) (by kernel_rfl) ?hQ52 ?hy52 (by assumption) ?rest52
          case hi52 => (simp only [List.getElem?_toArray, List.getElem?_cons_zero, List.getElem?_cons_succ]; rfl)
          case hQ52 => exact fun _ _ _ h => h
          case hy52 => exact Or.inl ⟨by rfl, by (intro w hSw; (try dsimp only at hSw); go_simp )⟩
          simp only [Act.put, List.setIfInBounds_toArray, List.set_cons_zero, List.set_cons_succ]
          refine wpAnyH_done (by kernel_rfl) ?_ _
          clear hHeld
          go_wp2
          go_ret
          exact ⟨rfl, hb⟩
        · replace HT := hide (HT.out.below hb)
          have HXR := hide HX.out.rd
          have HYL := hide (show n ≤ y.length by have := HYN.out; omega)
          go_wp2
          refine wp_region_held_drew (S := (fun U => Below wr.heap.size wr U)) (by kernel_rfl) ?_ (fun hHeld => ?_)
          · exact (Below.refl _ wr).drew
          generalize wr.drew = V at hHeld ⊢
          replace hb := below_bl rfl hb hHeld
          replace HXR := hide (HXR.out.bel hHeld).top
          replace HT := hide (HT.out.below hHeld)
          refine wpAnyH_more (S' := fun U => Below V.heap.size V U) (fun U h => hHeld.trans (h.mono hHeld.size)) _ _ _ _ ?_
          clear hHeld
          have hHeld := Below.refl V.heap.size V
          have HXT := hide (HXR.out.to HYL.out)
          refine wpAnyH_take (i := 0) (oi := ?oi53) (v := .slice (some ⟨g, 0, none⟩) (n + 4) cx) ?hi53 (by kernel_rfl) (by kernel_rfl) (by kernel_rfl) ?hQ53 ?hy53 (by assumption) ?rest53
          case hi53 => (simp only [List.getElem?_toArray, List.getElem?_cons_zero]; rfl)
          case hQ53 => exact fun _ _ _ h => h
          case hy53 => exact Or.inl ⟨by rfl, by (intro w hSw; (try dsimp only at hSw); go_simp )⟩
          simp only [Act.put, List.setIfInBounds_toArray, List.set_cons_zero, List.set_cons_succ]
          refine wpAnyH_take (i := 1) (oi := ?oi54) (v := .slice ad n cap) ?hi54 (by kernel_rfl) (by kernel_rfl) (by kernel_rfl) ?hQ54 ?hy54 (by assumption) ?rest54
          case hi54 => (simp only [List.getElem?_toArray, List.getElem?_cons_zero, List.getElem?_cons_succ]; rfl)
          case hQ54 => exact fun _ _ _ h => h
          case hy54 => exact Or.inl ⟨by rfl, by (intro w hSw; (try dsimp only at hSw); go_simp )⟩
          simp only [Act.put, List.setIfInBounds_toArray, List.set_cons_zero, List.set_cons_succ]
          refine wpAnyH_take (i := 2) (oi := ?oi55) (v := .int .i64 (n : Nat)) ?hi55 (by kernel_rfl) (by kernel_rfl) (by kernel_rfl) ?hQ55 ?hy55 (by assumption) ?rest55
          case hi55 => (simp only [List.getElem?_toArray, List.getElem?_cons_zero, List.getElem?_cons_succ]; rfl)
          case hQ55 => exact fun _ _ _ h => h
          case hy55 => exact Or.inl ⟨by rfl, by (intro w hSw; (try dsimp only at hSw); go_simp )⟩
          simp only [Act.put, List.setIfInBounds_toArray, List.set_cons_zero, List.set_cons_succ]
          refine wpAnyH_take (i := 3) (oi := ?oi56) (v := .slice (some ⟨g, 0, none⟩) n cx) ?hi56 (by kernel_rfl) (by kernel_rfl) (by kernel_rfl) ?hQ56 ?hy56 (by assumption) ?rest56
          case hi56 => (simp only [List.getElem?_toArray, List.getElem?_cons_zero, List.getElem?_cons_succ]; rfl)
          case hQ56 => exact fun _ _ _ h => h
          case hy56 => exact Or.inl ⟨by rfl, fun U hU => ex_to HXR.out HYL.out und_sl siz_sl rfl rfl U⟩
          simp only [Act.put, List.setIfInBounds_toArray, List.set_cons_zero, List.set_cons_succ]
          refine wpAnyH_take (i := 4) (oi := ?oi57) (v := .string (strB (y.take n))) ?hi57 (by kernel_rfl) (by kernel_rfl) (by kernel_rfl) ?hQ57 ?hy57 (by assumption) ?rest57
          case hi57 => (simp only [List.getElem?_toArray, List.getElem?_cons_zero, List.getElem?_cons_succ]; rfl)
          case hQ57 => exact fun _ _ _ h => h
          case hy57 => exact Or.inl ⟨by rfl, fun U hU => ex_str (HXT.out.bel hU) 5 Tryd.underlying23 Tryd.underlying5 und_str rfl⟩
          simp only [Act.put, List.setIfInBounds_toArray, List.set_cons_zero, List.set_cons_succ]
          refine wpAnyH_take (i := 5) (oi := ?oi58) (v := .slice ad n cap) ?hi58 (by kernel_rfl) (by kernel_rfl) (by kernel_rfl) ?hQ58 ?hy58 (by assumption) ?rest58
          case hi58 => (simp only [List.getElem?_toArray, List.getElem?_cons_zero, List.getElem?_cons_succ]; rfl)
          case hQ58 => exact fun _ _ _ h => h
          case hy58 => exact Or.inl ⟨by rfl, by (intro w hSw; (try dsimp only at hSw); go_simp )⟩
          simp only [Act.put, List.setIfInBounds_toArray, List.set_cons_zero, List.set_cons_succ]
          refine wpAnyH_take (i := 6) (oi := ?oi59) (v := .string (strB l)) ?hi59 (by kernel_rfl) (by kernel_rfl) (by kernel_rfl) ?hQ59 ?hy59 (by assumption) ?rest59
          case hi59 => (simp only [List.getElem?_toArray, List.getElem?_cons_zero, List.getElem?_cons_succ]; rfl)
          case hQ59 => exact fun _ _ _ h => h
          case hy59 => exact Or.inl ⟨by rfl, fun U hU => ex_str (HR.out.bel (hb.trans (hU.mono hb.size))) 5 Tryd.underlying23 Tryd.underlying5 und_str rfl⟩
          simp only [Act.put, List.setIfInBounds_toArray, List.set_cons_zero, List.set_cons_succ]
          refine wpAnyH_take (i := 7) (oi := ?oi60) (v := .bool true) ?hi60 (by kernel_rfl) (by kernel_rfl) (by kernel_rfl) ?hQ60 ?hy60 (by assumption) ?rest60
          case hi60 => (simp only [List.getElem?_toArray, List.getElem?_cons_zero, List.getElem?_cons_succ]; rfl)
          case hQ60 => exact fun _ _ _ h => h
          case hy60 => exact Or.inl ⟨by rfl, fun U hU => (ex_seq (strB (y.take n)) (strB l) rfl rfl U).trans (by rw [strB_inj HXT.out.lt HLT.out, HD1.out])⟩
          simp only [Act.put, List.setIfInBounds_toArray, List.set_cons_zero, List.set_cons_succ]
          refine wpAnyH_take (i := 8) (oi := ?oi61) (v := .bool true) ?hi61 (by kernel_rfl) (by kernel_rfl) (by kernel_rfl) ?hQ61 ?hy61 (by assumption) ?rest61
          case hi61 => (simp only [List.getElem?_toArray, List.getElem?_cons_zero, List.getElem?_cons_succ]; rfl)
          case hQ61 => exact fun _ _ _ h => h
          case hy61 => exact Or.inl ⟨by rfl, by (intro w hSw; (try dsimp only at hSw); go_simp )⟩
          simp only [Act.put, List.setIfInBounds_toArray, List.set_cons_zero, List.set_cons_succ]
          refine wpAnyH_take (i := 9) (oi := ?oi62) (v := .slice (some ⟨g, 0, none⟩) (n + 4) cx) ?hi62 (by kernel_rfl) (by kernel_rfl) (by kernel_rfl) ?hQ62 ?hy62 (by assumption) ?rest62
          case hi62 => (simp only [List.getElem?_toArray, List.getElem?_cons_zero, List.getElem?_cons_succ]; rfl)
          case hQ62 => exact fun _ _ _ h => h
          case hy62 => exact Or.inl ⟨by rfl, by (intro w hSw; (try dsimp only at hSw); go_simp )⟩
          simp only [Act.put, List.setIfInBounds_toArray, List.set_cons_zero, List.set_cons_succ]
          refine wpAnyH_take (i := 10) (oi := ?oi63) (v := .string (strB y)) ?hi63 (by kernel_rfl) (by kernel_rfl) (by kernel_rfl) ?hQ63 ?hy63 (by assumption) ?rest63
          case hi63 => (simp only [List.getElem?_toArray, List.getElem?_cons_zero, List.getElem?_cons_succ]; rfl)
          case hQ63 => exact fun _ _ _ h => h
          case hy63 => exact Or.inl ⟨by rfl, fun U hU => ex_str (HXR.out.bel hU) 5 Tryd.underlying23 Tryd.underlying5 und_str rfl⟩
          simp only [Act.put, List.setIfInBounds_toArray, List.set_cons_zero, List.set_cons_succ]
          refine wpAnyH_take (i := 11) (oi := ?oi64) (v := .slice ad n cap) ?hi64 (by kernel_rfl) (by kernel_rfl) (by kernel_rfl) ?hQ64 ?hy64 (by assumption) ?rest64
          case hi64 => (simp only [List.getElem?_toArray, List.getElem?_cons_zero, List.getElem?_cons_succ]; rfl)
          case hQ64 => exact fun _ _ _ h => h
          case hy64 => exact Or.inl ⟨by rfl, by (intro w hSw; (try dsimp only at hSw); go_simp )⟩
          simp only [Act.put, List.setIfInBounds_toArray, List.set_cons_zero, List.set_cons_succ]
          refine wpAnyH_ready (rs := [12]) (by kernel_rfl) (by simp) ?_
          refine AllReadyH.cons (o := ?oi65) ?hi65 (fun K hK => ?_) AllReadyH.nil
          case hi65 => (simp only [List.getElem?_toArray, List.getElem?_cons_zero, List.getElem?_cons_succ]; rfl)
          rw [if_pos (by rfl)]
          go_simp
          refine (HTA.out _ (HR.out.bel hb) hb.size HT.out).mono ?_
          rintro e V2 ⟨vt2, rfl, hot, hbc⟩
          go_simp
          refine hK.out _ _ ?_ (fun hHeld => ?_)
          · exact hbc
          clear hK K
          clear hHeld
          replace hb := below_bl rfl hb hbc
          replace HXR := hide (HXR.out.bel hbc).top
          replace HT := hide (HT.out.below hbc)
          have HO1 := hide hot.rd
          clear hot
          refine wpAnyH_more (S' := fun U => Below V2.heap.size V2 U) (fun U h => hbc.trans (h.mono hbc.size)) _ _ _ _ ?_
          clear hbc
          have hHeld := Below.refl V2.heap.size V2
          refine wpAnyH_take (i := 13) (oi := ?oi66) (v := .string (strB lt)) ?hi66 (by kernel_rfl) (by kernel_rfl) (by kernel_rfl) ?hQ66 ?hy66 (by assumption) ?rest66
          case hi66 => (simp only [List.getElem?_toArray, List.getElem?_cons_zero, List.getElem?_cons_succ]; rfl)
          case hQ66 => exact fun _ _ _ h => h
          case hy66 => exact Or.inl ⟨by rfl, fun U hU => ex_str (HO1.out.bel hU) 5 Tryd.underlying23 Tryd.underlying5 und_str rfl⟩
          simp only [Act.put, List.setIfInBounds_toArray, List.set_cons_zero, List.set_cons_succ]
          refine wpAnyH_take (i := 14) (oi := ?oi67) (v := .bool sm) ?hi67 (by kernel_rfl) (by kernel_rfl) (by kernel_rfl) ?hQ67 ?hy67 (by assumption) ?rest67
          case hi67 => (simp only [List.getElem?_toArray, List.getElem?_cons_zero, List.getElem?_cons_succ]; rfl)
          case hQ67 => exact fun _ _ _ h => h
          case hy67 => exact Or.inl ⟨by rfl, fun U hU => (ex_seq (strB y) (strB lt) rfl rfl U).trans (by rw [strB_inj HXR.out.lt HO1.out.lt, HD2.out])⟩
          simp only [Act.put, List.setIfInBounds_toArray, List.set_cons_zero, List.set_cons_succ]
          refine wpAnyH_take (i := 15) (oi := ?oi68) (v := .bool sm) ?hi68 (by kernel_rfl) (by kernel_rfl) (by kernel_rfl) ?hQ68 ?hy68 (by assumption) ?rest68
          case hi68 => (simp only [List.getElem?_toArray, List.getElem?_cons_zero, List.getElem?_cons_succ]; rfl)
          case hQ68 => exact fun _ _ _ h => h
          case hy68 => exact Or.inl ⟨by rfl, by (intro w hSw; go_simp)⟩
          simp only [Act.put, List.setIfInBounds_toArray, List.set_cons_zero, List.set_cons_succ]
          refine wpAnyH_take (i := 16) (oi := ?oi69) (v := .bool sm) ?hi69 (by kernel_rfl) (by kernel_rfl) (by kernel_rfl) ?hQ69 ?hy69 (by assumption) ?rest69
          case hi69 => (simp only [List.getElem?_toArray, List.getElem?_cons_zero, List.getElem?_cons_succ]; rfl)
          case hQ69 => exact fun _ _ _ h => h
          case hy69 => exact Or.inl ⟨by rfl, by (intro w hSw; (try dsimp only at hSw); go_simp )⟩
          simp only [Act.put, List.setIfInBounds_toArray, List.set_cons_zero, List.set_cons_succ]
          refine wpAnyH_done (by kernel_rfl) ?_ _
          clear hHeld
          go_wp2_with (go_at_call 13; (with_reducible refine (HCU.out _ _ HXR.out (Nat.le_refl _) HT.out).mono ?_); rintro e W5 ⟨v5, rfl, _, hbc⟩; replace hb := below_bl rfl hb hbc; replace HT := hide (HT.out.below hbc); clear hbc)
          refine wp_region_held_drew (S := (fun U => Below W5.heap.size W5 U)) (by kernel_rfl) ?_ (fun hHeld => ?_)
          · exact (Below.refl _ W5).drew
          generalize W5.drew = V5 at hHeld ⊢
          replace hb := below_bl rfl hb hHeld
          replace HT := hide (HT.out.below hHeld)
          refine wpAnyH_more (S' := fun U => Below V5.heap.size V5 U) (fun U h => hHeld.trans (h.mono hHeld.size)) _ _ _ _ ?_
          clear hHeld
          have hHeld := Below.refl V5.heap.size V5
          refine wpAnyH_take (i := 0) (oi := ?oi70) (v := errS (cutE y)) ?hi70 (by kernel_rfl) (by kernel_rfl) (by kernel_rfl) ?hQ70 ?hy70 (by assumption) ?rest70
          case hi70 => (simp only [List.getElem?_toArray, List.getElem?_cons_zero]; rfl)
          case hQ70 => exact fun _ _ _ h => h
          case hy70 => exact Or.inl ⟨by rfl, by (intro w hSw; (try dsimp only at hSw); go_simp )⟩
          simp only [Act.put, List.setIfInBounds_toArray, List.set_cons_zero, List.set_cons_succ]
          refine wpAnyH_take (i := 1) (oi := ?oi71) (v := .bool sm) ?hi71 (by kernel_rfl) (by kernel_rfl) (by kernel_rfl) ?hQ71 ?hy71 (by assumption) ?rest71
          case hi71 => (simp only [List.getElem?_toArray, List.getElem?_cons_zero, List.getElem?_cons_succ]; rfl)
          case hQ71 => exact fun _ _ _ h => h
          case hy71 => exact Or.inl ⟨by rfl, fun U hU => (ex_isnil (cutE y) rfl U).trans (by rw [HEN.out])⟩
          simp only [Act.put, List.setIfInBounds_toArray, List.set_cons_zero, List.set_cons_succ]
          refine wpAnyH_take (i := 2) (oi := ?oi72) (v := .bool sm) ?hi72 (by kernel_rfl) (by kernel_rfl) (by kernel_rfl) ?hQ72 ?hy72 (by assumption) ?rest72
          case hi72 => (simp only [List.getElem?_toArray, List.getElem?_cons_zero, List.getElem?_cons_succ]; rfl)
          case hQ72 => exact fun _ _ _ h => h
          case hy72 => exact Or.inl ⟨by rfl, by (intro w hSw; (try dsimp only at hSw); go_simp )⟩
          simp only [Act.put, List.setIfInBounds_toArray, List.set_cons_zero, List.set_cons_succ]
          refine wpAnyH_take (i := 3) (oi := ?oi73) (v := .bool true) ?hi73 (by kernel_rfl) (by kernel_rfl) (by kernel_rfl) ?hQ73 ?hy73 (by assumption) ?rest73
          case hi73 => (simp only [List.getElem?_toArray, List.getElem?_cons_zero, List.getElem?_cons_succ]; rfl)
          case hQ73 => exact fun _ _ _ h => h
          case hy73 => exact Or.inl ⟨by rfl, by (intro w hSw; go_simp)⟩
          simp only [Act.put, List.setIfInBounds_toArray, List.set_cons_zero, List.set_cons_succ]
          refine wpAnyH_take (i := 4) (oi := ?oi74) (v := .bool true) ?hi74 (by kernel_rfl) (by kernel_rfl) (by kernel_rfl) ?hQ74 ?hy74 (by assumption) ?rest74
          case hi74 => (simp only [List.getElem?_toArray, List.getElem?_cons_zero, List.getElem?_cons_succ]; rfl)
          case hQ74 => exact fun _ _ _ h => h
          case hy74 => exact Or.inl ⟨by rfl, by (intro w hSw; (try dsimp only at hSw); go_simp )⟩
          simp only [Act.put, List.setIfInBounds_toArray, List.set_cons_zero, List.set_cons_succ]
          refine wpAnyH_take (i := 5) (oi := ?oi75) (v := .slice ad n cap) ?hi75 (by kernel_rfl) (by kernel_rfl) (by kernel_rfl) ?hQ75 ?hy75 (by assumption) ?rest75
          case hi75 => (simp only [List.getElem?_toArray, List.getElem?_cons_zero, List.getElem?_cons_succ]; rfl)
          case hQ75 => exact fun _ _ _ h => h
          case hy75 => exact Or.inl ⟨by rfl, by (intro w hSw; (try dsimp only at hSw); go_simp )⟩
          simp only [Act.put, List.setIfInBounds_toArray, List.set_cons_zero, List.set_cons_succ]
          refine wpAnyH_take (i := 6) (oi := ?oi76) (v := .int .i64 (k0 : Nat)) ?hi76 (by kernel_rfl) (by kernel_rfl) (by kernel_rfl) ?hQ76 ?hy76 (by assumption) ?rest76
          case hi76 => (simp only [List.getElem?_toArray, List.getElem?_cons_zero, List.getElem?_cons_succ]; rfl)
          case hQ76 => exact fun _ _ _ h => h
          case hy76 => exact Or.inl ⟨by rfl, by (intro w hSw; go_simp)⟩
          simp only [Act.put, List.setIfInBounds_toArray, List.set_cons_zero, List.set_cons_succ]
          refine wpAnyH_take (i := 7) (oi := ?oi77) (v := .slice ad k0 cap) ?hi77 (by kernel_rfl) (by kernel_rfl) (by kernel_rfl) ?hQ77 ?hy77 (by assumption) ?rest77
          case hi77 => (simp only [List.getElem?_toArray, List.getElem?_cons_zero, List.getElem?_cons_succ]; rfl)
          case hQ77 => exact fun _ _ _ h => h
          case hy77 => exact Or.inl ⟨by rfl, fun U hU => ex_to HR.out HK0.out und_sl siz_sl rfl rfl U⟩
          simp only [Act.put, List.setIfInBounds_toArray, List.set_cons_zero, List.set_cons_succ]
          refine wpAnyH_take (i := 9) (oi := ?oi78) (v := .slice ad n cap) ?hi78 (by kernel_rfl) (by kernel_rfl) (by kernel_rfl) ?hQ78 ?hy78 (by assumption) ?rest78
          case hi78 => (simp only [List.getElem?_toArray, List.getElem?_cons_zero, List.getElem?_cons_succ]; rfl)
          case hQ78 => exact fun _ _ _ h => h
          case hy78 => exact Or.inl ⟨by rfl, by (intro w hSw; (try dsimp only at hSw); go_simp )⟩
          simp only [Act.put, List.setIfInBounds_toArray, List.set_cons_zero, List.set_cons_succ]
          refine wpAnyH_take (i := 10) (oi := ?oi79) (v := .int .i64 (k0 : Nat)) ?hi79 (by kernel_rfl) (by kernel_rfl) (by kernel_rfl) ?hQ79 ?hy79 (by assumption) ?rest79
          case hi79 => (simp only [List.getElem?_toArray, List.getElem?_cons_zero, List.getElem?_cons_succ]; rfl)
          case hQ79 => exact fun _ _ _ h => h
          case hy79 => exact Or.inl ⟨by rfl, by (intro w hSw; go_simp)⟩
          simp only [Act.put, List.setIfInBounds_toArray, List.set_cons_zero, List.set_cons_succ]
          refine wpAnyH_take (i := 11) (oi := ?oi80) (v := vF) ?hi80 (by kernel_rfl) (by kernel_rfl) (by kernel_rfl) ?hQ80 ?hy80 (by assumption) ?rest80
          case hi80 => (simp only [List.getElem?_toArray, List.getElem?_cons_zero, List.getElem?_cons_succ]; rfl)
          case hQ80 => exact fun _ _ _ h => h
          case hy80 => exact Or.inl ⟨by rfl, fun U hU => (ex_frm HR.out HK0.out und_sl siz_sl rfl rfl U).trans (by rw [HVF.out])⟩
          simp only [Act.put, List.setIfInBounds_toArray, List.set_cons_zero, List.set_cons_succ]
          refine wpAnyH_take (i := 13) (oi := ?oi81) (v := .slice ad n cap) ?hi81 (by kernel_rfl) (by kernel_rfl) (by kernel_rfl) ?hQ81 ?hy81 (by assumption) ?rest81
          case hi81 => (simp only [List.getElem?_toArray, List.getElem?_cons_zero, List.getElem?_cons_succ]; rfl)
          case hQ81 => exact fun _ _ _ h => h
          case hy81 => exact Or.inl ⟨by rfl, by (intro w hSw; (try dsimp only at hSw); go_simp )⟩
          simp only [Act.put, List.setIfInBounds_toArray, List.set_cons_zero, List.set_cons_succ]
          refine wpAnyH_ready (rs := [8]) (by kernel_rfl) (by simp) ?_
          refine AllReadyH.cons (o := ?oi82) ?hi82 (fun K hK => ?_) AllReadyH.nil
          case hi82 => (simp only [List.getElem?_toArray, List.getElem?_cons_zero, List.getElem?_cons_succ]; rfl)
          rw [if_pos (by rfl)]
          go_simp
          refine (HOF1.out _ (HK1.out.bel hb) HT.out).mono ?_
          rintro e V6 ⟨rfl, rfl⟩
          go_simp
          refine hK.out _ _ ?_ (fun hHeld => ?_)
          · exact hHeld
          clear hK K
          refine wpAnyH_ready (rs := [12]) (by kernel_rfl) (by simp) ?_
          refine AllReadyH.cons (o := ?oi83) ?hi83 (fun K hK => ?_) AllReadyH.nil
          case hi83 => (simp only [List.getElem?_toArray, List.getElem?_cons_zero, List.getElem?_cons_succ]; rfl)
          rw [if_pos (by rfl)]
          go_simp
          refine (HMF.out _ (HF.out.bel hb) HT.out).mono ?_
          rintro e V7 ⟨rfl, rfl⟩
          go_simp
          refine hK.out _ _ ?_ (fun hHeld => ?_)
          · exact hHeld
          clear hK K
          refine wpAnyH_ready (rs := [14]) (by kernel_rfl) (by simp) ?_
          refine AllReadyH.cons (o := ?oi84) ?hi84 (fun K hK => ?_) AllReadyH.nil
          case hi84 => (simp only [List.getElem?_toArray, List.getElem?_cons_zero, List.getElem?_cons_succ]; rfl)
          rw [if_pos (by rfl)]
          go_simp
          refine (HOF2.out _ (HR.out.bel hb) HT.out).mono ?_
          rintro e V8 ⟨rfl, rfl⟩
          go_simp
          refine hK.out _ _ ?_ (fun hHeld => ?_)
          · exact hHeld
          clear hK K
          refine wpAnyH_take (i := 15) (oi := ?oi85) (v := .bool true) ?hi85 (by kernel_rfl) (by kernel_rfl) (by kernel_rfl) ?hQ85 ?hy85 (by assumption) ?rest85
          case hi85 => (simp only [List.getElem?_toArray, List.getElem?_cons_zero, List.getElem?_cons_succ]; rfl)
          case hQ85 => exact fun _ _ _ h => h
          case hy85 => exact Or.inl ⟨by rfl, by (intro w hSw; go_simp)⟩
          simp only [Act.put, List.setIfInBounds_toArray, List.set_cons_zero, List.set_cons_succ]
          refine wpAnyH_take (i := 16) (oi := ?oi86) (v := .bool true) ?hi86 (by kernel_rfl) (by kernel_rfl) (by kernel_rfl) ?hQ86 ?hy86 (by assumption) ?rest86
          case hi86 => (simp only [List.getElem?_toArray, List.getElem?_cons_zero, List.getElem?_cons_succ]; rfl)
          case hQ86 => exact fun _ _ _ h => h
          case hy86 => exact Or.inl ⟨by rfl, by (intro w hSw; (try dsimp only at hSw); go_simp )⟩
          simp only [Act.put, List.setIfInBounds_toArray, List.set_cons_zero, List.set_cons_succ]
          refine wpAnyH_take (i := 17) (oi := ?oi87) (v := .bool true) ?hi87 (by kernel_rfl) (by kernel_rfl) (by kernel_rfl) ?hQ87 ?hy87 (by assumption) ?rest87
          case hi87 => (simp only [List.getElem?_toArray, List.getElem?_cons_zero, List.getElem?_cons_succ]; rfl)
          case hQ87 => exact fun _ _ _ h => h
          case hy87 => exact Or.inl ⟨by rfl, by (intro w hSw; (try dsimp only at hSw); go_simp )⟩
          simp only [Act.put, List.setIfInBounds_toArray, List.set_cons_zero, List.set_cons_succ]
          refine wpAnyH_ready (rs := [18]) (by kernel_rfl) (by simp) ?_
          refine AllReadyH.cons (o := ?oi88) ?hi88 (fun K hK => ?_) AllReadyH.nil
          case hi88 => (simp only [List.getElem?_toArray, List.getElem?_cons_zero, List.getElem?_cons_succ]; rfl)
          rw [if_pos (by rfl)]
          go_simp
          refine (HSU.out _ HT.out).mono ?_
          rintro e V9 ⟨rfl, hbc⟩
          go_simp
          refine hK.out _ _ ?_ (fun hHeld => ?_)
          · exact hbc
          clear hK K
          clear hHeld
          replace hb := below_bl rfl hb hbc
          refine wpAnyH_more (S' := fun U => Below V9.heap.size V9 U) (fun U h => hbc.trans (h.mono hbc.size)) _ _ _ _ ?_
          clear hbc
          have hHeld := Below.refl V9.heap.size V9
          refine wpAnyH_take (i := 19) (oi := ?oi89) (v := .bool true) ?hi89 (by kernel_rfl) (by kernel_rfl) (by kernel_rfl) ?hQ89 ?hy89 (by assumption) ?rest89
          case hi89 => (simp only [List.getElem?_toArray, List.getElem?_cons_zero, List.getElem?_cons_succ]; rfl)
          case hQ89 => exact fun _ _ _ h => h
          case hy89 => exact Or.inl ⟨by rfl, by (intro w hSw; (try dsimp only at hSw); go_simp )⟩
          simp only [Act.put, List.setIfInBounds_toArray, List.set_cons_zero, List.set_cons_succ]
          refine wpAnyH_take (i := 20) (oi := ?oi90) (v := .bool true) ?hi90 (by kernel_rfl) (by kernel_rfl) (by kernel_rfl) ?hQ90 ?hy90 (by assumption) ?rest90
          case hi90 => (simp only [List.getElem?_toArray, List.getElem?_cons_zero, List.getElem?_cons_succ]; rfl)
          case hQ90 => exact fun _ _ _ h => h
          case hy90 => exact Or.inl ⟨by rfl, by (intro w hSw; (try dsimp only at hSw); go_simp )⟩
          simp only [Act.put, List.setIfInBounds_toArray, List.set_cons_zero, List.set_cons_succ]
          refine wpAnyH_done (by kernel_rfl) ?_ _
          clear hHeld
          go_wp2
          go_ret
          exact ⟨rfl, hb⟩
      · have HD1 := hide (decide_eq_false hA)
        have hno : decide (y = lt) = false := decide_eq_false fun h => hA (HTKL.out h)
        rw [hno] at HEN
        clear hA hno HTKL
        rcases hi3 with rfl | ⟨hi4, hi5⟩
        · replace HT := hide (HT.out.below hb)
          have HXR := hide HX.out.rd
          have HYL := hide (show n ≤ y.length by have := HYN.out; omega)
          go_wp2
          refine wp_region_held_drew (S := (fun U => Below wr.heap.size wr U)) (by kernel_rfl) ?_ (fun hHeld => ?_)
          · exact (Below.refl _ wr).drew
          generalize wr.drew = V at hHeld ⊢
          replace hb := below_bl rfl hb hHeld
          replace HXR := hide (HXR.out.bel hHeld).top
          replace HT := hide (HT.out.below hHeld)
          refine wpAnyH_more (S' := fun U => Below V.heap.size V U) (fun U h => hHeld.trans (h.mono hHeld.size)) _ _ _ _ ?_
          clear hHeld
          have hHeld := Below.refl V.heap.size V
          have HXT := hide (HXR.out.to HYL.out)
          refine wpAnyH_take (i := 0) (oi := ?oi91) (v := .slice (some ⟨g, 0, none⟩) (n + 4) cx) ?hi91 (by kernel_rfl) (by kernel_rfl) (by kernel_rfl) ?hQ91 ?hy91 (by assumption) ?rest91
          case hi91 => (simp only [List.getElem?_toArray, List.getElem?_cons_zero]; rfl)
          case hQ91 => exact fun _ _ _ h => h
          case hy91 => exact Or.inl ⟨by rfl, by (intro w hSw; (try dsimp only at hSw); go_simp )⟩
          simp only [Act.put, List.setIfInBounds_toArray, List.set_cons_zero, List.set_cons_succ]
          refine wpAnyH_take (i := 1) (oi := ?oi92) (v := .slice ad n cap) ?hi92 (by kernel_rfl) (by kernel_rfl) (by kernel_rfl) ?hQ92 ?hy92 (by assumption) ?rest92
          case hi92 => (simp only [List.getElem?_toArray, List.getElem?_cons_zero, List.getElem?_cons_succ]; rfl)
          case hQ92 => exact fun _ _ _ h => h
          case hy92 => exact Or.inl ⟨by rfl, by (intro w hSw; (try dsimp only at hSw); go_simp )⟩
          simp only [Act.put, List.setIfInBounds_toArray, List.set_cons_zero, List.set_cons_succ]
          refine wpAnyH_take (i := 2) (oi := ?oi93) (v := .int .i64 (n : Nat)) ?hi93 (by kernel_rfl) (by kernel_rfl) (by kernel_rfl) ?hQ93 ?hy93 (by assumption) ?rest93
          case hi93 => (simp only [List.getElem?_toArray, List.getElem?_cons_zero, List.getElem?_cons_succ]; rfl)
          case hQ93 => exact fun _ _ _ h => h
          case hy93 => exact Or.inl ⟨by rfl, by (intro w hSw; (try dsimp only at hSw); go_simp )⟩
          simp only [Act.put, List.setIfInBounds_toArray, List.set_cons_zero, List.set_cons_succ]
          refine wpAnyH_take (i := 3) (oi := ?oi94) (v := .slice (some ⟨g, 0, none⟩) n cx) ?hi94 (by kernel_rfl) (by kernel_rfl) (by kernel_rfl) ?hQ94 ?hy94 (by assumption) ?rest94
          case hi94 => (simp only [List.getElem?_toArray, List.getElem?_cons_zero, List.getElem?_cons_succ]; rfl)
          case hQ94 => exact fun _ _ _ h => h
          case hy94 => exact Or.inl ⟨by rfl, fun U hU => ex_to HXR.out HYL.out und_sl siz_sl rfl rfl U⟩
          simp only [Act.put, List.setIfInBounds_toArray, List.set_cons_zero, List.set_cons_succ]
          refine wpAnyH_take (i := 4) (oi := ?oi95) (v := .string (strB (y.take n))) ?hi95 (by kernel_rfl) (by kernel_rfl) (by kernel_rfl) ?hQ95 ?hy95 (by assumption) ?rest95
          case hi95 => (simp only [List.getElem?_toArray, List.getElem?_cons_zero, List.getElem?_cons_succ]; rfl)
          case hQ95 => exact fun _ _ _ h => h
          case hy95 => exact Or.inl ⟨by rfl, fun U hU => ex_str (HXT.out.bel hU) 5 Tryd.underlying23 Tryd.underlying5 und_str rfl⟩
          simp only [Act.put, List.setIfInBounds_toArray, List.set_cons_zero, List.set_cons_succ]
          refine wpAnyH_take (i := 5) (oi := ?oi96) (v := .slice ad n cap) ?hi96 (by kernel_rfl) (by kernel_rfl) (by kernel_rfl) ?hQ96 ?hy96 (by assumption) ?rest96
          case hi96 => (simp only [List.getElem?_toArray, List.getElem?_cons_zero, List.getElem?_cons_succ]; rfl)
          case hQ96 => exact fun _ _ _ h => h
          case hy96 => exact Or.inl ⟨by rfl, by (intro w hSw; (try dsimp only at hSw); go_simp )⟩
          simp only [Act.put, List.setIfInBounds_toArray, List.set_cons_zero, List.set_cons_succ]
          refine wpAnyH_take (i := 6) (oi := ?oi97) (v := .string (strB l)) ?hi97 (by kernel_rfl) (by kernel_rfl) (by kernel_rfl) ?hQ97 ?hy97 (by assumption) ?rest97
          case hi97 => (simp only [List.getElem?_toArray, List.getElem?_cons_zero, List.getElem?_cons_succ]; rfl)
          case hQ97 => exact fun _ _ _ h => h
          case hy97 => exact Or.inl ⟨by rfl, fun U hU => ex_str (HR.out.bel (hb.trans (hU.mono hb.size))) 5 Tryd.underlying23 Tryd.underlying5 und_str rfl⟩
          simp only [Act.put, List.setIfInBounds_toArray, List.set_cons_zero, List.set_cons_succ]
          refine wpAnyH_take (i := 7) (oi := ?oi98) (v := .bool false) ?hi98 (by kernel_rfl) (by kernel_rfl) (by kernel_rfl) ?hQ98 ?hy98 (by assumption) ?rest98
          case hi98 => (simp only [List.getElem?_toArray, List.getElem?_cons_zero, List.getElem?_cons_succ]; rfl)
          case hQ98 => exact fun _ _ _ h => h
          case hy98 => exact Or.inl ⟨by rfl, fun U hU => (ex_seq (strB (y.take n)) (strB l) rfl rfl U).trans (by rw [strB_inj HXT.out.lt HLT.out, HD1.out])⟩
          simp only [Act.put, List.setIfInBounds_toArray, List.set_cons_zero, List.set_cons_succ]
          refine wpAnyH_take (i := 8) (oi := ?oi99) (v := .bool false) ?hi99 (by kernel_rfl) (by kernel_rfl) (by kernel_rfl) ?hQ99 ?hy99 (by assumption) ?rest99
          case hi99 => (simp only [List.getElem?_toArray, List.getElem?_cons_zero, List.getElem?_cons_succ]; rfl)
          case hQ99 => exact fun _ _ _ h => h
          case hy99 => exact Or.inl ⟨by rfl, by (intro w hSw; (try dsimp only at hSw); go_simp )⟩
          simp only [Act.put, List.setIfInBounds_toArray, List.set_cons_zero, List.set_cons_succ]
          refine wpAnyH_take (i := 9) (oi := ?oi100) (v := undef) ?hi100 (by kernel_rfl) (by kernel_rfl) (by kernel_rfl) ?hQ100 ?hy100 (by assumption) ?rest100
          case hi100 => (simp only [List.getElem?_toArray, List.getElem?_cons_zero, List.getElem?_cons_succ]; rfl)
          case hQ100 => exact fun _ _ _ h => h
          case hy100 => exact Or.inr ⟨by rfl, rfl⟩
          simp only [Act.put, List.setIfInBounds_toArray, List.set_cons_zero, List.set_cons_succ]
          refine wpAnyH_take (i := 10) (oi := ?oi101) (v := undef) ?hi101 (by kernel_rfl) (by kernel_rfl) (by kernel_rfl) ?hQ101 ?hy101 (by assumption) ?rest101
          case hi101 => (simp only [List.getElem?_toArray, List.getElem?_cons_zero, List.getElem?_cons_succ]; rfl)
          case hQ101 => exact fun _ _ _ h => h
          case hy101 => exact Or.inr ⟨by rfl, rfl⟩
          simp only [Act.put, List.setIfInBounds_toArray, List.set_cons_zero, List.set_cons_succ]
          refine wpAnyH_take (i := 11) (oi := ?oi102) (v := undef) ?hi102 (by kernel_rfl) (by kernel_rfl) (by kernel_rfl) ?hQ102 ?hy102 (by assumption) ?rest102
          case hi102 => (simp only [List.getElem?_toArray, List.getElem?_cons_zero, List.getElem?_cons_succ]; rfl)
          case hQ102 => exact fun _ _ _ h => h
          case hy102 => exact Or.inr ⟨by rfl, rfl⟩
          simp only [Act.put, List.setIfInBounds_toArray, List.set_cons_zero, List.set_cons_succ]
          refine wpAnyH_take (i := 12) (oi := ?oi103) (v := undef) ?hi103 (by kernel_rfl) (by kernel_rfl) (by kernel_rfl) ?hQ103 ?hy103 (by assumption) ?rest103
          case hi103 => (simp only [List.getElem?_toArray, List.getElem?_cons_zero, List.getElem?_cons_succ]; rfl)
          case hQ103 => exact fun _ _ _ h => h
          case hy103 => exact Or.inr ⟨by rfl, rfl⟩
          simp only [Act.put, List.setIfInBounds_toArray, List.set_cons_zero, List.set_cons_succ]
          refine wpAnyH_take (i := 13) (oi := ?oi104) (v := undef) ?hi104 (by kernel_rfl) (by kernel_rfl) (by kernel_rfl) ?hQ104 ?hy104 (by assumption) ?rest104
          case hi104 => (simp only [List.getElem?_toArray, List.getElem?_cons_zero, List.getElem?_cons_succ]; rfl)
          case hQ104 => exact fun _ _ _ h => h
          case hy104 => exact Or.inr ⟨by rfl, rfl⟩
          simp only [Act.put, List.setIfInBounds_toArray, List.set_cons_zero, List.set_cons_succ]
          refine wpAnyH_take (i := 14) (oi := ?oi105) (v := undef) ?hi105 (by kernel_rfl) (by kernel_rfl) (by kernel_rfl) ?hQ105 ?hy105 (by assumption) ?rest105
          case hi105 => (simp only [List.getElem?_toArray, List.getElem?_cons_zero, List.getElem?_cons_succ]; rfl)
          case hQ105 => exact fun _ _ _ h => h
          case hy105 => exact Or.inr ⟨by rfl, rfl⟩
          simp only [Act.put, List.setIfInBounds_toArray, List.set_cons_zero, List.set_cons_succ]
          refine wpAnyH_take (i := 15) (oi := ?oi106) (v := .bool false) ?hi106 (by kernel_rfl) (by kernel_rfl) (by kernel_rfl) ?hQ106 ?hy106 (by assumption) ?rest106
          case hi106 => (simp only [List.getElem?_toArray, List.getElem?_cons_zero, List.getElem?_cons_succ]; rfl)
          case hQ106 => exact fun _ _ _ h => h
          case hy106 => exact Or.inl ⟨by rfl, by (intro w hSw; (try dsimp only at hSw); go_simp )⟩
          simp only [Act.put, List.setIfInBounds_toArray, List.set_cons_zero, List.set_cons_succ]
          refine wpAnyH_take (i := 16) (oi := ?oi107) (v := .bool false) ?hi107 (by kernel_rfl) (by kernel_rfl) (by kernel_rfl) ?hQ107 ?hy107 (by assumption) ?rest107
          case hi107 => (simp only [List.getElem?_toArray, List.getElem?_cons_zero, List.getElem?_cons_succ]; rfl)
          case hQ107 => exact fun _ _ _ h => h
          case hy107 => exact Or.inl ⟨by rfl, by (intro w hSw; (try dsimp only at hSw); go_simp )⟩
          simp only [Act.put, List.setIfInBounds_toArray, List.set_cons_zero, List.set_cons_succ]
          refine wpAnyH_done (by kernel_rfl) ?_ _
          clear hHeld
          go_wp2_with (go_at_call 13; (with_reducible refine (HCU.out _ _ HXR.out (Nat.le_refl _) HT.out).mono ?_); rintro e W5 ⟨v5, rfl, _, hbc⟩; replace hb := below_bl rfl hb hbc; replace HT := hide (HT.out.below hbc); clear hbc)
          refine wp_region_held_drew (S := (fun U => Below W5.heap.size W5 U)) (by kernel_rfl) ?_ (fun hHeld => ?_)
          · exact (Below.refl _ W5).drew
          generalize W5.drew = V5 at hHeld ⊢
          replace hb := below_bl rfl hb hHeld
          replace HT := hide (HT.out.below hHeld)
          refine wpAnyH_more (S' := fun U => Below V5.heap.size V5 U) (fun U h => hHeld.trans (h.mono hHeld.size)) _ _ _ _ ?_
          clear hHeld
          have hHeld := Below.refl V5.heap.size V5
          refine wpAnyH_take (i := 0) (oi := ?oi108) (v := errS (cutE y)) ?hi108 (by kernel_rfl) (by kernel_rfl) (by kernel_rfl) ?hQ108 ?hy108 (by assumption) ?rest108
          case hi108 => (simp only [List.getElem?_toArray, List.getElem?_cons_zero]; rfl)
          case hQ108 => exact fun _ _ _ h => h
          case hy108 => exact Or.inl ⟨by rfl, by (intro w hSw; (try dsimp only at hSw); go_simp )⟩
          simp only [Act.put, List.setIfInBounds_toArray, List.set_cons_zero, List.set_cons_succ]
          refine wpAnyH_take (i := 1) (oi := ?oi109) (v := .bool false) ?hi109 (by kernel_rfl) (by kernel_rfl) (by kernel_rfl) ?hQ109 ?hy109 (by assumption) ?rest109
          case hi109 => (simp only [List.getElem?_toArray, List.getElem?_cons_zero, List.getElem?_cons_succ]; rfl)
          case hQ109 => exact fun _ _ _ h => h
          case hy109 => exact Or.inl ⟨by rfl, fun U hU => (ex_isnil (cutE y) rfl U).trans (by rw [HEN.out])⟩
          simp only [Act.put, List.setIfInBounds_toArray, List.set_cons_zero, List.set_cons_succ]
          refine wpAnyH_take (i := 2) (oi := ?oi110) (v := .bool false) ?hi110 (by kernel_rfl) (by kernel_rfl) (by kernel_rfl) ?hQ110 ?hy110 (by assumption) ?rest110
          case hi110 => (simp only [List.getElem?_toArray, List.getElem?_cons_zero, List.getElem?_cons_succ]; rfl)
          case hQ110 => exact fun _ _ _ h => h
          case hy110 => exact Or.inl ⟨by rfl, by (intro w hSw; (try dsimp only at hSw); go_simp )⟩
          simp only [Act.put, List.setIfInBounds_toArray, List.set_cons_zero, List.set_cons_succ]
          refine wpAnyH_take (i := 3) (oi := ?oi111) (v := .bool true) ?hi111 (by kernel_rfl) (by kernel_rfl) (by kernel_rfl) ?hQ111 ?hy111 (by assumption) ?rest111
          case hi111 => (simp only [List.getElem?_toArray, List.getElem?_cons_zero, List.getElem?_cons_succ]; rfl)
          case hQ111 => exact fun _ _ _ h => h
          case hy111 => exact Or.inl ⟨by rfl, by (intro w hSw; go_simp)⟩
          simp only [Act.put, List.setIfInBounds_toArray, List.set_cons_zero, List.set_cons_succ]
          refine wpAnyH_take (i := 4) (oi := ?oi112) (v := .bool true) ?hi112 (by kernel_rfl) (by kernel_rfl) (by kernel_rfl) ?hQ112 ?hy112 (by assumption) ?rest112
          case hi112 => (simp only [List.getElem?_toArray, List.getElem?_cons_zero, List.getElem?_cons_succ]; rfl)
          case hQ112 => exact fun _ _ _ h => h
          case hy112 => exact Or.inl ⟨by rfl, by (intro w hSw; (try dsimp only at hSw); go_simp )⟩
          simp only [Act.put, List.setIfInBounds_toArray, List.set_cons_zero, List.set_cons_succ]
          refine wpAnyH_take (i := 5) (oi := ?oi113) (v := .slice ad n cap) ?hi113 (by kernel_rfl) (by kernel_rfl) (by kernel_rfl) ?hQ113 ?hy113 (by assumption) ?rest113
          case hi113 => (simp only [List.getElem?_toArray, List.getElem?_cons_zero, List.getElem?_cons_succ]; rfl)
          case hQ113 => exact fun _ _ _ h => h
          case hy113 => exact Or.inl ⟨by rfl, by (intro w hSw; (try dsimp only at hSw); go_simp )⟩
          simp only [Act.put, List.setIfInBounds_toArray, List.set_cons_zero, List.set_cons_succ]
          refine wpAnyH_take (i := 6) (oi := ?oi114) (v := .int .i64 (k0 : Nat)) ?hi114 (by kernel_rfl) (by kernel_rfl) (by kernel_rfl) ?hQ114 ?hy114 (by assumption) ?rest114
          case hi114 => (simp only [List.getElem?_toArray, List.getElem?_cons_zero, List.getElem?_cons_succ]; rfl)
          case hQ114 => exact fun _ _ _ h => h
          case hy114 => exact Or.inl ⟨by rfl, by (intro w hSw; go_simp)⟩
          simp only [Act.put, List.setIfInBounds_toArray, List.set_cons_zero, List.set_cons_succ]
          refine wpAnyH_take (i := 7) (oi := ?oi115) (v := .slice ad k0 cap) ?hi115 (by kernel_rfl) (by kernel_rfl) (by kernel_rfl) ?hQ115 ?hy115 (by assumption) ?rest115
          case hi115 => (simp only [List.getElem?_toArray, List.getElem?_cons_zero, List.getElem?_cons_succ]; rfl)
          case hQ115 => exact fun _ _ _ h => h
          case hy115 => exact Or.inl ⟨by rfl, fun U hU => ex_to HR.out HK0.out und_sl siz_sl rfl rfl U⟩
          simp only [Act.put, List.setIfInBounds_toArray, List.set_cons_zero, List.set_cons_succ]
          refine wpAnyH_take (i := 9) (oi := ?oi116) (v := .slice ad n cap) ?hi116 (by kernel_rfl) (by kernel_rfl) (by kernel_rfl) ?hQ116 ?hy116 (by assumption) ?rest116
          case hi116 => (simp only [List.getElem?_toArray, List.getElem?_cons_zero, List.getElem?_cons_succ]; rfl)
          case hQ116 => exact fun _ _ _ h => h
          case hy116 => exact Or.inl ⟨by rfl, by (intro w hSw; (try dsimp only at hSw); go_simp )⟩
          simp only [Act.put, List.setIfInBounds_toArray, List.set_cons_zero, List.set_cons_succ]
          refine wpAnyH_take (i := 10) (oi := ?oi117) (v := .int .i64 (k0 : Nat)) ?hi117 (by kernel_rfl) (by kernel_rfl) (by kernel_rfl) ?hQ117 ?hy117 (by assumption) ?rest117
          case hi117 => (simp only [List.getElem?_toArray, List.getElem?_cons_zero, List.getElem?_cons_succ]; rfl)
          case hQ117 => exact fun _ _ _ h => h
          case hy117 => exact Or.inl ⟨by rfl, by (intro w hSw; go_simp)⟩
          simp only [Act.put, List.setIfInBounds_toArray, List.set_cons_zero, List.set_cons_succ]
          refine wpAnyH_take (i := 11) (oi := ?oi118) (v := vF) ?hi118 (by kernel_rfl) (by kernel_rfl) (by kernel_rfl) ?hQ118 ?hy118 (by assumption) ?rest118
          case hi118 => (simp only [List.getElem?_toArray, List.getElem?_cons_zero, List.getElem?_cons_succ]; rfl)
          case hQ118 => exact fun _ _ _ h => h
          case hy118 => exact Or.inl ⟨by rfl, fun U hU => (ex_frm HR.out HK0.out und_sl siz_sl rfl rfl U).trans (by rw [HVF.out])⟩
          simp only [Act.put, List.setIfInBounds_toArray, List.set_cons_zero, List.set_cons_succ]
          refine wpAnyH_take (i := 13) (oi := ?oi119) (v := .slice ad n cap) ?hi119 (by kernel_rfl) (by kernel_rfl) (by kernel_rfl) ?hQ119 ?hy119 (by assumption) ?rest119
          case hi119 => (simp only [List.getElem?_toArray, List.getElem?_cons_zero, List.getElem?_cons_succ]; rfl)
          case hQ119 => exact fun _ _ _ h => h
          case hy119 => exact Or.inl ⟨by rfl, by (intro w hSw; (try dsimp only at hSw); go_simp )⟩
          simp only [Act.put, List.setIfInBounds_toArray, List.set_cons_zero, List.set_cons_succ]
          refine wpAnyH_ready (rs := [8]) (by kernel_rfl) (by simp) ?_
          refine AllReadyH.cons (o := ?oi120) ?hi120 (fun K hK => ?_) AllReadyH.nil
          case hi120 => (simp only [List.getElem?_toArray, List.getElem?_cons_zero, List.getElem?_cons_succ]; rfl)
          rw [if_pos (by rfl)]
          go_simp
          refine (HOF1.out _ (HK1.out.bel hb) HT.out).mono ?_
          rintro e V6 ⟨rfl, rfl⟩
          go_simp
          refine hK.out _ _ ?_ (fun hHeld => ?_)
          · exact hHeld
          clear hK K
          refine wpAnyH_ready (rs := [12]) (by kernel_rfl) (by simp) ?_
          refine AllReadyH.cons (o := ?oi121) ?hi121 (fun K hK => ?_) AllReadyH.nil
          case hi121 => (simp only [List.getElem?_toArray, List.getElem?_cons_zero, List.getElem?_cons_succ]; rfl)
          rw [if_pos (by rfl)]
          go_simp
          refine (HMF.out _ (HF.out.bel hb) HT.out).mono ?_
          rintro e V7 ⟨rfl, rfl⟩
          go_simp
          refine hK.out _ _ ?_ (fun hHeld => ?_)
          · exact hHeld
          clear hK K
          refine wpAnyH_ready (rs := [14]) (by kernel_rfl) (by simp) ?_
          refine AllReadyH.cons (o := ?oi122) ?hi122 (fun K hK => ?_) AllReadyH.nil
          case hi122 => (simp only [List.getElem?_toArray, List.getElem?_cons_zero, List.getElem?_cons_succ]; rfl)
          rw [if_pos (by rfl)]
          go_simp
          refine (HOF2.out _ (HR.out.bel hb) HT.out).mono ?_
          rintro e V8 ⟨rfl, rfl⟩
          go_simp
          refine hK.out _ _ ?_ (fun hHeld => ?_)
          · exact hHeld
          clear hK K
          refine wpAnyH_take (i := 15) (oi := ?oi123) (v := .bool true) ?hi123 (by kernel_rfl) (by kernel_rfl) (by kernel_rfl) ?hQ123 ?hy123 (by assumption) ?rest123
          case hi123 => (simp only [List.getElem?_toArray, List.getElem?_cons_zero, List.getElem?_cons_succ]; rfl)
          case hQ123 => exact fun _ _ _ h => h
          case hy123 => exact Or.inl ⟨by rfl, by (intro w hSw; go_simp)⟩
          simp only [Act.put, List.setIfInBounds_toArray, List.set_cons_zero, List.set_cons_succ]
          refine wpAnyH_take (i := 16) (oi := ?oi124) (v := .bool true) ?hi124 (by kernel_rfl) (by kernel_rfl) (by kernel_rfl) ?hQ124 ?hy124 (by assumption) ?rest124
          case hi124 => (simp only [List.getElem?_toArray, List.getElem?_cons_zero, List.getElem?_cons_succ]; rfl)
          case hQ124 => exact fun _ _ _ h => h
          case hy124 => exact Or.inl ⟨by rfl, by (intro w hSw; (try dsimp only at hSw); go_simp )⟩
          simp only [Act.put, List.setIfInBounds_toArray, List.set_cons_zero, List.set_cons_succ]
          refine wpAnyH_take (i := 17) (oi := ?oi125) (v := .bool true) ?hi125 (by kernel_rfl) (by kernel_rfl) (by kernel_rfl) ?hQ125 ?hy125 (by assumption) ?rest125
          case hi125 => (simp only [List.getElem?_toArray, List.getElem?_cons_zero, List.getElem?_cons_succ]; rfl)
          case hQ125 => exact fun _ _ _ h => h
          case hy125 => exact Or.inl ⟨by rfl, by (intro w hSw; (try dsimp only at hSw); go_simp )⟩
          simp only [Act.put, List.setIfInBounds_toArray, List.set_cons_zero, List.set_cons_succ]
          refine wpAnyH_ready (rs := [18]) (by kernel_rfl) (by simp) ?_
          refine AllReadyH.cons (o := ?oi126) ?hi126 (fun K hK => ?_) AllReadyH.nil
          case hi126 => (simp only [List.getElem?_toArray, List.getElem?_cons_zero, List.getElem?_cons_succ]; rfl)
          rw [if_pos (by rfl)]
          go_simp
          refine (HSU.out _ HT.out).mono ?_
          rintro e V9 ⟨rfl, hbc⟩
          go_simp
          refine hK.out _ _ ?_ (fun hHeld => ?_)
          · exact hbc
          clear hK K
          clear hHeld
          replace hb := below_bl rfl hb hbc
          refine wpAnyH_more (S' := fun U => Below V9.heap.size V9 U) (fun U h => hbc.trans (h.mono hbc.size)) _ _ _ _ ?_
          clear hbc
          have hHeld := Below.refl V9.heap.size V9
          refine wpAnyH_take (i := 19) (oi := ?oi127) (v := .bool true) ?hi127 (by kernel_rfl) (by kernel_rfl) (by kernel_rfl) ?hQ127 ?hy127 (by assumption) ?rest127
          case hi127 => (simp only [List.getElem?_toArray, List.getElem?_cons_zero, List.getElem?_cons_succ]; rfl)
          case hQ127 => exact fun _ _ _ h => h
          case hy127 => exact Or.inl ⟨by rfl, by (intro w hSw; (try dsimp only at hSw); go_simp )⟩
          simp only [Act.put, List.setIfInBounds_toArray, List.set_cons_zero, List.set_cons_succ]
          refine wpAnyH_take (i := 20) (oi := ?oi128) (v := .bool true) ?hi128 (by kernel_rfl) (by kernel_rfl) (by kernel_rfl) ?hQ128 ?hy128 (by assumption) ?rest128
          case hi128 => (simp only [List.getElem?_toArray, List.getElem?_cons_zero, List.getElem?_cons_succ]; rfl)
          case hQ128 => exact fun _ _ _ h => h
          case hy128 => exact Or.inl ⟨by rfl, by (intro w hSw; (try dsimp only at hSw); go_simp )⟩
          simp only [Act.put, List.setIfInBounds_toArray, List.set_cons_zero, List.set_cons_succ]
          refine wpAnyH_done (by kernel_rfl) ?_ _
          clear hHeld
          go_wp2
          go_ret
          exact ⟨rfl, hb⟩
        · replace HT := hide (HT.out.below hb)
          have HXR := hide HX.out.rd
          have HYL := hide (show n ≤ y.length by have := HYN.out; omega)
          go_wp2
          refine wp_region_held_drew (S := (fun U => Below wr.heap.size wr U)) (by kernel_rfl) ?_ (fun hHeld => ?_)
          · exact (Below.refl _ wr).drew
          generalize wr.drew = V at hHeld ⊢
          replace hb := below_bl rfl hb hHeld
          replace HXR := hide (HXR.out.bel hHeld).top
          replace HT := hide (HT.out.below hHeld)
          refine wpAnyH_more (S' := fun U => Below V.heap.size V U) (fun U h => hHeld.trans (h.mono hHeld.size)) _ _ _ _ ?_
          clear hHeld
          have hHeld := Below.refl V.heap.size V
          have HXT := hide (HXR.out.to HYL.out)
          refine wpAnyH_take (i := 0) (oi := ?oi129) (v := .slice (some ⟨g, 0, none⟩) (n + 4) cx) ?hi129 (by kernel_rfl) (by kernel_rfl) (by kernel_rfl) ?hQ129 ?hy129 (by assumption) ?rest129
          case hi129 => (simp only [List.getElem?_toArray, List.getElem?_cons_zero]; rfl)
          case hQ129 => exact fun _ _ _ h => h
          case hy129 => exact Or.inl ⟨by rfl, by (intro w hSw; (try dsimp only at hSw); go_simp )⟩
          simp only [Act.put, List.setIfInBounds_toArray, List.set_cons_zero, List.set_cons_succ]
          refine wpAnyH_take (i := 1) (oi := ?oi130) (v := .slice ad n cap) ?hi130 (by kernel_rfl) (by kernel_rfl) (by kernel_rfl) ?hQ130 ?hy130 (by assumption) ?rest130
          case hi130 => (simp only [List.getElem?_toArray, List.getElem?_cons_zero, List.getElem?_cons_succ]; rfl)
          case hQ130 => exact fun _ _ _ h => h
          case hy130 => exact Or.inl ⟨by rfl, by (intro w hSw; (try dsimp only at hSw); go_simp )⟩
          simp only [Act.put, List.setIfInBounds_toArray, List.set_cons_zero, List.set_cons_succ]
          refine wpAnyH_take (i := 2) (oi := ?oi131) (v := .int .i64 (n : Nat)) ?hi131 (by kernel_rfl) (by kernel_rfl) (by kernel_rfl) ?hQ131 ?hy131 (by assumption) ?rest131
          case hi131 => (simp only [List.getElem?_toArray, List.getElem?_cons_zero, List.getElem?_cons_succ]; rfl)
          case hQ131 => exact fun _ _ _ h => h
          case hy131 => exact Or.inl ⟨by rfl, by (intro w hSw; (try dsimp only at hSw); go_simp )⟩
          simp only [Act.put, List.setIfInBounds_toArray, List.set_cons_zero, List.set_cons_succ]
          refine wpAnyH_take (i := 3) (oi := ?oi132) (v := .slice (some ⟨g, 0, none⟩) n cx) ?hi132 (by kernel_rfl) (by kernel_rfl) (by kernel_rfl) ?hQ132 ?hy132 (by assumption) ?rest132
          case hi132 => (simp only [List.getElem?_toArray, List.getElem?_cons_zero, List.getElem?_cons_succ]; rfl)
          case hQ132 => exact fun _ _ _ h => h
          case hy132 => exact Or.inl ⟨by rfl, fun U hU => ex_to HXR.out HYL.out und_sl siz_sl rfl rfl U⟩
          simp only [Act.put, List.setIfInBounds_toArray, List.set_cons_zero, List.set_cons_succ]
          refine wpAnyH_take (i := 4) (oi := ?oi133) (v := .string (strB (y.take n))) ?hi133 (by kernel_rfl) (by kernel_rfl) (by kernel_rfl) ?hQ133 ?hy133 (by assumption) ?rest133
          case hi133 => (simp only [List.getElem?_toArray, List.getElem?_cons_zero, List.getElem?_cons_succ]; rfl)
          case hQ133 => exact fun _ _ _ h => h
          case hy133 => exact Or.inl ⟨by rfl, fun U hU => ex_str (HXT.out.bel hU) 5 Tryd.underlying23 Tryd.underlying5 und_str rfl⟩
          simp only [Act.put, List.setIfInBounds_toArray, List.set_cons_zero, List.set_cons_succ]
          refine wpAnyH_take (i := 5) (oi := ?oi134) (v := .slice ad n cap) ?hi134 (by kernel_rfl) (by kernel_rfl) (by kernel_rfl) ?hQ134 ?hy134 (by assumption) ?rest134
          case hi134 => (simp only [List.getElem?_toArray, List.getElem?_cons_zero, List.getElem?_cons_succ]; rfl)
          case hQ134 => exact fun _ _ _ h => h
          case hy134 => exact Or.inl ⟨by rfl, by (intro w hSw; (try dsimp only at hSw); go_simp )⟩
          simp only [Act.put, List.setIfInBounds_toArray, List.set_cons_zero, List.set_cons_succ]
          refine wpAnyH_take (i := 6) (oi := ?oi135) (v := .string (strB l)) ?hi135 (by kernel_rfl) (by kernel_rfl) (by kernel_rfl) ?hQ135 ?hy135 (by assumption) ?rest135
          case hi135 => (simp only [List.getElem?_toArray, List.getElem?_cons_zero, List.getElem?_cons_succ]; rfl)
          case hQ135 => exact fun _ _ _ h => h
          case hy135 => exact Or.inl ⟨by rfl, fun U hU => ex_str (HR.out.bel (hb.trans (hU.mono hb.size))) 5 Tryd.underlying23 Tryd.underlying5 und_str rfl⟩
          simp only [Act.put, List.setIfInBounds_toArray, List.set_cons_zero, List.set_cons_succ]
          refine wpAnyH_take (i := 7) (oi := ?oi136) (v := .bool false) ?hi136 (by kernel_rfl) (by kernel_rfl) (by kernel_rfl) ?hQ136 ?hy136 (by assumption) ?rest136
          case hi136 => (simp only [List.getElem?_toArray, List.getElem?_cons_zero, List.getElem?_cons_succ]; rfl)
          case hQ136 => exact fun _ _ _ h => h
          case hy136 => exact Or.inl ⟨by rfl, fun U hU => (ex_seq (strB (y.take n)) (strB l) rfl rfl U).trans (by rw [strB_inj HXT.out.lt HLT.out, HD1.out])⟩
          simp only [Act.put, List.setIfInBounds_toArray, List.set_cons_zero, List.set_cons_succ]
          refine wpAnyH_take (i := 8) (oi := ?oi137) (v := .bool false) ?hi137 (by kernel_rfl) (by kernel_rfl) (by kernel_rfl) ?hQ137 ?hy137 (by assumption) ?rest137
          case hi137 => (simp only [List.getElem?_toArray, List.getElem?_cons_zero, List.getElem?_cons_succ]; rfl)
          case hQ137 => exact fun _ _ _ h => h
          case hy137 => exact Or.inl ⟨by rfl, by (intro w hSw; (try dsimp only at hSw); go_simp )⟩
          simp only [Act.put, List.setIfInBounds_toArray, List.set_cons_zero, List.set_cons_succ]
          refine wpAnyH_take (i := 9) (oi := ?oi138) (v := undef) ?hi138 (by kernel_rfl) (by kernel_rfl) (by kernel_rfl) ?hQ138 ?hy138 (by assumption) ?rest138
          case hi138 => (simp only [List.getElem?_toArray, List.getElem?_cons_zero, List.getElem?_cons_succ]; rfl)
          case hQ138 => exact fun _ _ _ h => h
          case hy138 => exact Or.inr ⟨by rfl, rfl⟩
          simp only [Act.put, List.setIfInBounds_toArray, List.set_cons_zero, List.set_cons_succ]
          refine wpAnyH_take (i := 10) (oi := ?oi139) (v := undef) ?hi139 (by kernel_rfl) (by kernel_rfl) (by kernel_rfl) ?hQ139 ?hy139 (by assumption) ?rest139
          case hi139 => (simp only [List.getElem?_toArray, List.getElem?_cons_zero, List.getElem?_cons_succ]; rfl)
          case hQ139 => exact fun _ _ _ h => h
          case hy139 => exact Or.inr ⟨by rfl, rfl⟩
          simp only [Act.put, List.setIfInBounds_toArray, List.set_cons_zero, List.set_cons_succ]
          refine wpAnyH_take (i := 11) (oi := ?oi140) (v := undef) ?hi140 (by kernel_rfl) (by kernel_rfl) (by kernel_rfl) ?hQ140 ?hy140 (by assumption) ?rest140
          case hi140 => (simp only [List.getElem?_toArray, List.getElem?_cons_zero, List.getElem?_cons_succ]; rfl)
          case hQ140 => exact fun _ _ _ h => h
          case hy140 => exact Or.inr ⟨by rfl, rfl⟩
          simp only [Act.put, List.setIfInBounds_toArray, List.set_cons_zero, List.set_cons_succ]
          refine wpAnyH_take (i := 12) (oi := ?oi141) (v := undef) ?hi141 (by kernel_rfl) (by kernel_rfl) (by kernel_rfl) ?hQ141 ?hy141 (by assumption) ?rest141
          case hi141 => (simp only [List.getElem?_toArray, List.getElem?_cons_zero, List.getElem?_cons_succ]; rfl)
          case hQ141 => exact fun _ _ _ h => h
          case hy141 => exact Or.inr ⟨by rfl, rfl⟩
          simp only [Act.put, List.setIfInBounds_toArray, List.set_cons_zero, List.set_cons_succ]
          refine wpAnyH_take (i := 13) (oi := ?oi142) (v := undef) ?hi142 (by kernel_rfl) (by kernel_rfl) (by kernel_rfl) ?hQ142 ?hy142 (by assumption) ?rest142
          case hi142 => (simp only [List.getElem?_toArray, List.getElem?_cons_zero, List.getElem?_cons_succ]; rfl)
          case hQ142 => exact fun _ _ _ h => h
          case hy142 => exact Or.inr ⟨by rfl, rfl⟩
          simp only [Act.put, List.setIfInBounds_toArray, List.set_cons_zero, List.set_cons_succ]
          refine wpAnyH_take (i := 14) (oi := ?oi143) (v := undef) ?hi143 (by kernel_rfl) (by kernel_rfl) (by kernel_rfl) ?hQ143 ?hy143 (by assumption) ?rest143
          case hi143 => (simp only [List.getElem?_toArray, List.getElem?_cons_zero, List.getElem?_cons_succ]; rfl)
          case hQ143 => exact fun _ _ _ h => h
          case hy143 => exact Or.inr ⟨by rfl, rfl⟩
          simp only [Act.put, List.setIfInBounds_toArray, List.set_cons_zero, List.set_cons_succ]
          refine wpAnyH_take (i := 15) (oi := ?oi144) (v := .bool false) ?hi144 (by kernel_rfl) (by kernel_rfl) (by kernel_rfl) ?hQ144 ?hy144 (by assumption) ?rest144
          case hi144 => (simp only [List.getElem?_toArray, List.getElem?_cons_zero, List.getElem?_cons_succ]; rfl)
          case hQ144 => exact fun _ _ _ h => h
          case hy144 => exact Or.inl ⟨by rfl, by (intro w hSw; (try dsimp only at hSw); go_simp )⟩
          simp only [Act.put, List.setIfInBounds_toArray, List.set_cons_zero, List.set_cons_succ]
          refine wpAnyH_take (i := 16) (oi := ?oi145) (v := .bool false) ?hi145 (by kernel_rfl) (by kernel_rfl) (by kernel_rfl) ?hQ145 ?hy145 (by assumption) ?rest145
          case hi145 => (simp only [List.getElem?_toArray, List.getElem?_cons_zero, List.getElem?_cons_succ]; rfl)
          case hQ145 => exact fun _ _ _ h => h
          case hy145 => exact Or.inl ⟨by rfl, by (intro w hSw; (try dsimp only at hSw); go_simp )⟩
          simp only [Act.put, List.setIfInBounds_toArray, List.set_cons_zero, List.set_cons_succ]
          refine wpAnyH_done (by kernel_rfl) ?_ _
          clear hHeld
          go_wp2_with (go_at_call 13; (with_reducible refine (HCU.out _ _ HXR.out (Nat.le_refl _) HT.out).mono ?_); rintro e W5 ⟨v5, rfl, _, hbc⟩; replace hb := below_bl rfl hb hbc; replace HT := hide (HT.out.below hbc); clear hbc)
          refine wp_region_held_drew (S := (fun U => Below W5.heap.size W5 U)) (by kernel_rfl) ?_ (fun hHeld => ?_)
          · exact (Below.refl _ W5).drew
          generalize W5.drew = V5 at hHeld ⊢
          replace hb := below_bl rfl hb hHeld
          replace HT := hide (HT.out.below hHeld)
          refine wpAnyH_more (S' := fun U => Below V5.heap.size V5 U) (fun U h => hHeld.trans (h.mono hHeld.size)) _ _ _ _ ?_
          clear hHeld
          have hHeld := Below.refl V5.heap.size V5
          refine wpAnyH_take (i := 0) (oi := ?oi146) (v := errS (cutE y)) ?hi146 (by kernel_rfl) (by kernel_rfl) (by kernel_rfl) ?hQ146 ?hy146 (by assumption) ?rest146
          case hi146 => (simp only [List.getElem?_toArray, List.getElem?_cons_zero]; rfl)
          case hQ146 => exact fun _ _ _ h => h
          case hy146 => exact Or.inl ⟨by rfl, by (intro w hSw; (try dsimp only at hSw); go_simp )⟩
          simp only [Act.put, List.setIfInBounds_toArray, List.set_cons_zero, List.set_cons_succ]
          refine wpAnyH_take (i := 1) (oi := ?oi147) (v := .bool false) ?hi147 (by kernel_rfl) (by kernel_rfl) (by kernel_rfl) ?hQ147 ?hy147 (by assumption) ?rest147
          case hi147 => (simp only [List.getElem?_toArray, List.getElem?_cons_zero, List.getElem?_cons_succ]; rfl)
          case hQ147 => exact fun _ _ _ h => h
          case hy147 => exact Or.inl ⟨by rfl, fun U hU => (ex_isnil (cutE y) rfl U).trans (by rw [HEN.out])⟩
          simp only [Act.put, List.setIfInBounds_toArray, List.set_cons_zero, List.set_cons_succ]
          refine wpAnyH_take (i := 2) (oi := ?oi148) (v := .bool false) ?hi148 (by kernel_rfl) (by kernel_rfl) (by kernel_rfl) ?hQ148 ?hy148 (by assumption) ?rest148
          case hi148 => (simp only [List.getElem?_toArray, List.getElem?_cons_zero, List.getElem?_cons_succ]; rfl)
          case hQ148 => exact fun _ _ _ h => h
          case hy148 => exact Or.inl ⟨by rfl, by (intro w hSw; (try dsimp only at hSw); go_simp )⟩
          simp only [Act.put, List.setIfInBounds_toArray, List.set_cons_zero, List.set_cons_succ]
          refine wpAnyH_take (i := 3) (oi := ?oi149) (v := .bool true) ?hi149 (by kernel_rfl) (by kernel_rfl) (by kernel_rfl) ?hQ149 ?hy149 (by assumption) ?rest149
          case hi149 => (simp only [List.getElem?_toArray, List.getElem?_cons_zero, List.getElem?_cons_succ]; rfl)
          case hQ149 => exact fun _ _ _ h => h
          case hy149 => exact Or.inl ⟨by rfl, by (intro w hSw; go_simp)⟩
          simp only [Act.put, List.setIfInBounds_toArray, List.set_cons_zero, List.set_cons_succ]
          refine wpAnyH_take (i := 4) (oi := ?oi150) (v := .bool true) ?hi150 (by kernel_rfl) (by kernel_rfl) (by kernel_rfl) ?hQ150 ?hy150 (by assumption) ?rest150
          case hi150 => (simp only [List.getElem?_toArray, List.getElem?_cons_zero, List.getElem?_cons_succ]; rfl)
          case hQ150 => exact fun _ _ _ h => h
          case hy150 => exact Or.inl ⟨by rfl, by (intro w hSw; (try dsimp only at hSw); go_simp )⟩
          simp only [Act.put, List.setIfInBounds_toArray, List.set_cons_zero, List.set_cons_succ]
          refine wpAnyH_take (i := 5) (oi := ?oi151) (v := .slice ad n cap) ?hi151 (by kernel_rfl) (by kernel_rfl) (by kernel_rfl) ?hQ151 ?hy151 (by assumption) ?rest151
          case hi151 => (simp only [List.getElem?_toArray, List.getElem?_cons_zero, List.getElem?_cons_succ]; rfl)
          case hQ151 => exact fun _ _ _ h => h
          case hy151 => exact Or.inl ⟨by rfl, by (intro w hSw; (try dsimp only at hSw); go_simp )⟩
          simp only [Act.put, List.setIfInBounds_toArray, List.set_cons_zero, List.set_cons_succ]
          refine wpAnyH_take (i := 6) (oi := ?oi152) (v := .int .i64 (k0 : Nat)) ?hi152 (by kernel_rfl) (by kernel_rfl) (by kernel_rfl) ?hQ152 ?hy152 (by assumption) ?rest152
          case hi152 => (simp only [List.getElem?_toArray, List.getElem?_cons_zero, List.getElem?_cons_succ]; rfl)
          case hQ152 => exact fun _ _ _ h => h
          case hy152 => exact Or.inl ⟨by rfl, by (intro w hSw; go_simp)⟩
          simp only [Act.put, List.setIfInBounds_toArray, List.set_cons_zero, List.set_cons_succ]
          refine wpAnyH_take (i := 7) (oi := ?oi153) (v := .slice ad k0 cap) ?hi153 (by kernel_rfl) (by kernel_rfl) (by kernel_rfl) ?hQ153 ?hy153 (by assumption) ?rest153
          case hi153 => (simp only [List.getElem?_toArray, List.getElem?_cons_zero, List.getElem?_cons_succ]; rfl)
          case hQ153 => exact fun _ _ _ h => h
          case hy153 => exact Or.inl ⟨by rfl, fun U hU => ex_to HR.out HK0.out und_sl siz_sl rfl rfl U⟩
          simp only [Act.put, List.setIfInBounds_toArray, List.set_cons_zero, List.set_cons_succ]
          refine wpAnyH_take (i := 9) (oi := ?oi154) (v := .slice ad n cap) ?hi154 (by kernel_rfl) (by kernel_rfl) (by kernel_rfl) ?hQ154 ?hy154 (by assumption) ?rest154
          case hi154 => (simp only [List.getElem?_toArray, List.getElem?_cons_zero, List.getElem?_cons_succ]; rfl)
          case hQ154 => exact fun _ _ _ h => h
          case hy154 => exact Or.inl ⟨by rfl, by (intro w hSw; (try dsimp only at hSw); go_simp )⟩
          simp only [Act.put, List.setIfInBounds_toArray, List.set_cons_zero, List.set_cons_succ]
          refine wpAnyH_take (i := 10) (oi := ?oi155) (v := .int .i64 (k0 : Nat)) ?hi155 (by kernel_rfl) (by kernel_rfl) (by kernel_rfl) ?hQ155 ?hy155 (by assumption) ?rest155
          case hi155 => (simp only [List.getElem?_toArray, List.getElem?_cons_zero, List.getElem?_cons_succ]; rfl)
          case hQ155 => exact fun _ _ _ h => h
          case hy155 => exact Or.inl ⟨by rfl, by (intro w hSw; go_simp)⟩
          simp only [Act.put, List.setIfInBounds_toArray, List.set_cons_zero, List.set_cons_succ]
          refine wpAnyH_take (i := 11) (oi := ?oi156) (v := vF) ?hi156 (by kernel_rfl) (by kernel_rfl) (by kernel_rfl) ?hQ156 ?hy156 (by assumption) ?rest156
          case hi156 => (simp only [List.getElem?_toArray, List.getElem?_cons_zero, List.getElem?_cons_succ]; rfl)
          case hQ156 => exact fun _ _ _ h => h
          case hy156 => exact Or.inl ⟨by rfl, fun U hU => (ex_frm HR.out HK0.out und_sl siz_sl rfl rfl U).trans (by rw [HVF.out])⟩
          simp only [Act.put, List.setIfInBounds_toArray, List.set_cons_zero, List.set_cons_succ]
          refine wpAnyH_take (i := 13) (oi := ?oi157) (v := .slice ad n cap) ?hi157 (by kernel_rfl) (by kernel_rfl) (by kernel_rfl) ?hQ157 ?hy157 (by assumption) ?rest157
          case hi157 => (simp only [List.getElem?_toArray, List.getElem?_cons_zero, List.getElem?_cons_succ]; rfl)
          case hQ157 => exact fun _ _ _ h => h
          case hy157 => exact Or.inl ⟨by rfl, by (intro w hSw; (try dsimp only at hSw); go_simp )⟩
          simp only [Act.put, List.setIfInBounds_toArray, List.set_cons_zero, List.set_cons_succ]
          refine wpAnyH_ready (rs := [8]) (by kernel_rfl) (by simp) ?_
          refine AllReadyH.cons (o := ?oi158) ?hi158 (fun K hK => ?_) AllReadyH.nil
          case hi158 => (simp only [List.getElem?_toArray, List.getElem?_cons_zero, List.getElem?_cons_succ]; rfl)
          rw [if_pos (by rfl)]
          go_simp
          refine (HOF1.out _ (HK1.out.bel hb) HT.out).mono ?_
          rintro e V6 ⟨rfl, rfl⟩
          go_simp
          refine hK.out _ _ ?_ (fun hHeld => ?_)
          · exact hHeld
          clear hK K
          refine wpAnyH_ready (rs := [12]) (by kernel_rfl) (by simp) ?_
          refine AllReadyH.cons (o := ?oi159) ?hi159 (fun K hK => ?_) AllReadyH.nil
          case hi159 => (simp only [List.getElem?_toArray, List.getElem?_cons_zero, List.getElem?_cons_succ]; rfl)
          rw [if_pos (by rfl)]
          go_simp
          refine (HMF.out _ (HF.out.bel hb) HT.out).mono ?_
          rintro e V7 ⟨rfl, rfl⟩
          go_simp
          refine hK.out _ _ ?_ (fun hHeld => ?_)
          · exact hHeld
          clear hK K
          refine wpAnyH_ready (rs := [14]) (by kernel_rfl) (by simp) ?_
          refine AllReadyH.cons (o := ?oi160) ?hi160 (fun K hK => ?_) AllReadyH.nil
          case hi160 => (simp only [List.getElem?_toArray, List.getElem?_cons_zero, List.getElem?_cons_succ]; rfl)
          rw [if_pos (by rfl)]
          go_simp
          refine (HOF2.out _ (HR.out.bel hb) HT.out).mono ?_
          rintro e V8 ⟨rfl, rfl⟩
          go_simp
          refine hK.out _ _ ?_ (fun hHeld => ?_)
          · exact hHeld
          clear hK K
          refine wpAnyH_take (i := 15) (oi := ?oi161) (v := .bool true) ?hi161 (by kernel_rfl) (by kernel_rfl) (by kernel_rfl) ?hQ161 ?hy161 (by assumption) ?rest161
          case hi161 => (simp only [List.getElem?_toArray, List.getElem?_cons_zero, List.getElem?_cons_succ]; rfl)
          case hQ161 => exact fun _ _ _ h => h
          case hy161 => exact Or.inl ⟨by rfl, by (intro w hSw; go_simp)⟩
          simp only [Act.put, List.setIfInBounds_toArray, List.set_cons_zero, List.set_cons_succ]
          refine wpAnyH_take (i := 16) (oi := ?oi162) (v := .bool true) ?hi162 (by kernel_rfl) (by kernel_rfl) (by kernel_rfl) ?hQ162 ?hy162 (by assumption) ?rest162
          case hi162 => (simp only [List.getElem?_toArray, List.getElem?_cons_zero, List.getElem?_cons_succ]; rfl)
          case hQ162 => exact fun _ _ _ h => h
          case hy162 => exact Or.inl ⟨by rfl, by (intro w hSw; (try dsimp only at hSw); go_simp )⟩
          simp only [Act.put, List.setIfInBounds_toArray, List.set_cons_zero, List.set_cons_succ]
          refine wpAnyH_take (i := 17) (oi := ?oi163) (v := .bool true) ?hi163 (by kernel_rfl) (by kernel_rfl) (by kernel_rfl) ?hQ163 ?hy163 (by assumption) ?rest163
          case hi163 => (simp only [List.getElem?_toArray, List.getElem?_cons_zero, List.getElem?_cons_succ]; rfl)
          case hQ163 => exact fun _ _ _ h => h
          case hy163 => exact Or.inl ⟨by rfl, by (intro w hSw; (try dsimp only at hSw); go_simp )⟩
          simp only [Act.put, List.setIfInBounds_toArray, List.set_cons_zero, List.set_cons_succ]
          refine wpAnyH_ready (rs := [18]) (by kernel_rfl) (by simp) ?_
          refine AllReadyH.cons (o := ?oi164) ?hi164 (fun K hK => ?_) AllReadyH.nil
          case hi164 => (simp only [List.getElem?_toArray, List.getElem?_cons_zero, List.getElem?_cons_succ]; rfl)
          rw [if_pos (by rfl)]
          go_simp
          refine (HSU.out _ HT.out).mono ?_
          rintro e V9 ⟨rfl, hbc⟩
          go_simp
          refine hK.out _ _ ?_ (fun hHeld => ?_)
          · exact hbc
          clear hK K
          clear hHeld
          replace hb := below_bl rfl hb hbc
          refine wpAnyH_more (S' := fun U => Below V9.heap.size V9 U) (fun U h => hbc.trans (h.mono hbc.size)) _ _ _ _ ?_
          clear hbc
          have hHeld := Below.refl V9.heap.size V9
          refine wpAnyH_take (i := 19) (oi := ?oi165) (v := .bool true) ?hi165 (by kernel_rfl) (by kernel_rfl) (by kernel_rfl) ?hQ165 ?hy165 (by assumption) ?rest165
          case hi165 => (simp only [List.getElem?_toArray, List.getElem?_cons_zero, List.getElem?_cons_succ]; rfl)
          case hQ165 => exact fun _ _ _ h => h
          case hy165 => exact Or.inl ⟨by rfl, by (intro w hSw; (try dsimp only at hSw); go_simp )⟩
          simp only [Act.put, List.setIfInBounds_toArray, List.set_cons_zero, List.set_cons_succ]
          refine wpAnyH_take (i := 20) (oi := ?oi166) (v := .bool true) ?hi166 (by kernel_rfl) (by kernel_rfl) (by kernel_rfl) ?hQ166 ?hy166 (by assumption) ?rest166
          case hi166 => (simp only [List.getElem?_toArray, List.getElem?_cons_zero, List.getElem?_cons_succ]; rfl)
          case hQ166 => exact fun _ _ _ h => h
          case hy166 => exact Or.inl ⟨by rfl, by (intro w hSw; (try dsimp only at hSw); go_simp )⟩
          simp only [Act.put, List.setIfInBounds_toArray, List.set_cons_zero, List.set_cons_succ]
          refine wpAnyH_done (by kernel_rfl) ?_ _
          clear hHeld
          go_wp2
          go_ret
          exact ⟨rfl, hb⟩
theorem near_walk {v : Value} {l : List Nat} (w : World) (h : Rd w.heap.size w v l) (at' : Int) (by' : Nat) (hby : by' < 4294967296) (hT : TabAt w) :
    Calls Tryd.prog 6 #[v, .int .i64 at', .int .u32 (by' : Nat)] w fun e w' => e = .returned (.bool true) ∧ Below w.heap.size w w' := by
  by_cases hle : l.length ≤ 5000
  · exact near_small w h hle at' by' hby hT
  · have HS := hide (sure_any w hT)
    have hbig : 5000 < l.length := by omega
    obtain ⟨ad, cap, rfl, hcap, hmax⟩ := h.form
    clear h hT hle
    go_enter Tryd.func6, Tryd.ntmps6
    go_wp2_with (go_at_call 8; (with_reducible refine (HS.out).mono ?_); rintro e w' ⟨rfl, hb⟩)
    go_ret
    exact ⟨rfl, hb⟩
end Go.Proofs.YtnokcfaipbolkaaDoor
