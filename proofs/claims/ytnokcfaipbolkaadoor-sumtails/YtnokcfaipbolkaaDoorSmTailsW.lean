/-
  SumTails, walked.
-/
import Derived.Test.YtnokcfaipbolkaaDoorSmSure
namespace Go.Proofs.YtnokcfaipbolkaaDoor
open Go.RowKit
set_option linter.unusedVariables false
set_option linter.unusedSimpArgs false

set_option maxHeartbeats 4000000 in
theorem tails_small {v : Value} {l : List Nat} (w : World) (h : Rd w.heap.size w v l) (hle : l.length ≤ 20000) (hH : HandleAt w) (hT : TabAt w) :
    Calls Tryd.prog 4 #[v] w fun e w' => e = .returned (.bool true) ∧ Below w.heap.size w w' := by
  have HC := hide (cutu_any w h (Nat.le_refl _) (by omega) hT)
  have HD := hide (fun W hR hB => rcutu_any (B := w.heap.size) (v := v) (l := l) W hR hB (by omega))
  have HTA := hide (fun W hR hB hT => tail_any (B := w.heap.size) (v := v) (l := l) W hR hB (by omega) hT)
  have HRT := hide (fun W hR hB => rtail_any (B := w.heap.size) (v := v) (l := l) W hR hB (by omega))
  have HC2 := hide (fun (B : Nat) (v : Value) (W : World) hR hB hT => cutu_any (B := B) (v := v) (l := l ++ tail4 (sumL l)) W hR hB (by rw [List.length_append]; have : (tail4 (sumL l)).length = 4 := rfl; omega) hT)
  have hct := cut_tail l h.lt
  rw [hct.1, hct.2] at HC2
  have HNU := hide (fun W hg => nums_any (cutE l) W hg)
  have HS := hide (fun w hT => sure_any w hT)
  have HR := hide h
  have HT := hide hT
  have HH := hide hH
  have HLT := hide h.lt
  have hb : Below w.heap.size w w := Below.refl _ w
  obtain ⟨ad, cap, rfl, hcap, hmax⟩ := h.form
  generalize cutL l = p at *
  generalize cutE l = en at *
  generalize hev : errS en = ev at *
  have hev0 : errS 0 = .nilIface := rfl
  rw [hev0] at HC2
  clear hev hev0
  generalize l ++ tail4 (sumL l) = lt at *
  clear h hT hH hct
  go_enter Tryd.func4, Tryd.ntmps4
  go_wp2_with (first | (go_at_call 13; (with_reducible refine (HC.out).mono ?_); rintro e W1 ⟨vx, rfl, hrx, hb1⟩; have HX := hide hrx; replace hb := hb1; clear hrx hb1) | (go_at_call 14; (with_reducible refine (HD.out _ (HR.out.bel hb) hb.size).mono ?_); rintro e W2 ⟨vy, rfl, hry, hb2⟩; replace HX := hide (HX.out.bel hb2); have HXs := hide (hb2.size); have HY := hide hry; replace hb := below_bl rfl hb hb2; clear hry hb2) | (go_at_call 15; (with_reducible refine (HTA.out _ (HR.out.bel hb) hb.size (HT.out.below hb)).mono ?_); rintro e W3 ⟨vt, rfl, hot, hb2⟩; replace HX := hide (HX.out.bel (hb2.mono HXs.out)); replace HXs := hide (Nat.le_trans HXs.out hb2.size); replace HY := hide (HY.out.bel hb2); have HYs := hide hb2.size; replace hb := below_bl rfl hb hb2; have HOT := hide hot.rd; clear hot hb2) | (go_at_call 13; (with_reducible refine (HC2.out _ _ _ HOT.out (Nat.le_refl _) (HT.out.below hb)).mono ?_); rintro e W4 ⟨vz, rfl, hrz, hb2⟩; replace HX := hide (HX.out.bel (hb2.mono HXs.out)); replace HXs := hide (Nat.le_trans HXs.out hb2.size); replace HY := hide (HY.out.bel (hb2.mono HYs.out)); replace HYs := hide (Nat.le_trans HYs.out hb2.size); replace hb := below_bl rfl hb hb2; have HZ := hide hrz; clear hrz hb2))
  replace HX := hide HX.out.top
  replace HY := hide HY.out.top
  have HRV := hide ((HR.out.bel hb).top)
  replace HT := hide (HT.out.below hb)
  replace HH := hide (HH.out.below hb)
  have HBE := hide hb.size
  refine wp_region_held_drew (S := (fun U => Below W4.heap.size W4 U)) (by kernel_rfl) ?_ (fun hHeld => ?_)
  · exact (Below.refl _ W4).drew
  generalize W4.drew = V at hHeld ⊢
  replace hb := below_bl rfl hb hHeld
  replace HX := hide (HX.out.bel hHeld).top
  replace HY := hide (HY.out.bel hHeld).top
  replace HZ := hide (HZ.out.bel hHeld).top
  replace HRV := hide (HRV.out.bel hHeld).top
  replace HT := hide (HT.out.below hHeld)
  replace HH := hide (HH.out.below hHeld)
  refine wpAnyH_more (S' := fun U => Below V.heap.size V U) (fun U h => hHeld.trans (h.mono hHeld.size)) _ _ _ _ ?_
  clear hHeld
  have hHeld := Below.refl V.heap.size V
  refine wpAnyH_take (i := 0) (oi := ?oi1) (v := .slice ad l.length cap) ?hi1 (by kernel_rfl) (by kernel_rfl) (by kernel_rfl) ?hQ1 ?hy1 (by assumption) ?rest1
  case hi1 => (simp only [List.getElem?_toArray, List.getElem?_cons_zero]; rfl)
  case hQ1 => exact fun _ _ _ h => h
  case hy1 => exact Or.inl ⟨by rfl, by (intro w hSw; (try dsimp only at hSw); go_simp )⟩
  simp only [Act.put, List.setIfInBounds_toArray, List.set_cons_zero, List.set_cons_succ]
  refine wpAnyH_take (i := 3) (oi := ?oi2) (v := .slice ad l.length cap) ?hi2 (by kernel_rfl) (by kernel_rfl) (by kernel_rfl) ?hQ2 ?hy2 (by assumption) ?rest2
  case hi2 => (simp only [List.getElem?_toArray, List.getElem?_cons_zero, List.getElem?_cons_succ]; rfl)
  case hQ2 => exact fun _ _ _ h => h
  case hy2 => exact Or.inl ⟨by rfl, by (intro w hSw; (try dsimp only at hSw); go_simp )⟩
  simp only [Act.put, List.setIfInBounds_toArray, List.set_cons_zero, List.set_cons_succ]
  refine wpAnyH_ready (rs := [1]) (by kernel_rfl) (by simp) ?_
  refine AllReadyH.cons (o := ?oi3) ?hi3 (fun K hK => ?_) AllReadyH.nil
  case hi3 => (simp only [List.getElem?_toArray, List.getElem?_cons_zero, List.getElem?_cons_succ]; rfl)
  rw [if_pos (by rfl)]
  go_simp
  refine (HTA.out _ (HR.out.bel hb) hb.size HT.out).mono ?_
  rintro e V2 ⟨vt2, rfl, hot, hbc⟩
  go_simp
  refine hK.out _ _ ?_ (fun hHeld => ?_)
  · exact hbc
  clear hK K
  clear hHeld
  replace hb := below_bl rfl hb hbc
  replace HX := hide (HX.out.bel hbc).top
  replace HY := hide (HY.out.bel hbc).top
  replace HZ := hide (HZ.out.bel hbc).top
  replace HRV := hide (HRV.out.bel hbc).top
  replace HT := hide (HT.out.below hbc)
  replace HH := hide (HH.out.below hbc)
  have HO1 := hide hot.rd
  clear hot
  refine wpAnyH_more (S' := fun U => Below V2.heap.size V2 U) (fun U h => hbc.trans (h.mono hbc.size)) _ _ _ _ ?_
  clear hbc
  have hHeld := Below.refl V2.heap.size V2
  refine wpAnyH_take (i := 2) (oi := ?oi4) (v := .string (strB lt)) ?hi4 (by kernel_rfl) (by kernel_rfl) (by kernel_rfl) ?hQ4 ?hy4 (by assumption) ?rest4
  case hi4 => (simp only [List.getElem?_toArray, List.getElem?_cons_zero, List.getElem?_cons_succ]; rfl)
  case hQ4 => exact fun _ _ _ h => h
  case hy4 => exact Or.inl ⟨by rfl, fun U hU => ex_str (HO1.out.bel hU) 5 Tryd.underlying23 Tryd.underlying5 und_str rfl⟩
  simp only [Act.put, List.setIfInBounds_toArray, List.set_cons_zero, List.set_cons_succ]
  refine wpAnyH_ready (rs := [4]) (by kernel_rfl) (by simp) ?_
  refine AllReadyH.cons (o := ?oi5) ?hi5 (fun K hK => ?_) AllReadyH.nil
  case hi5 => (simp only [List.getElem?_toArray, List.getElem?_cons_zero, List.getElem?_cons_succ]; rfl)
  rw [if_pos (by rfl)]
  go_simp
  refine (HRT.out _ (HR.out.bel hb) hb.size).mono ?_
  rintro e V3 ⟨vt3, rfl, hot, hbc⟩
  go_simp
  refine hK.out _ _ ?_ (fun hHeld => ?_)
  · exact hbc
  clear hK K
  clear hHeld
  replace hb := below_bl rfl hb hbc
  replace HX := hide (HX.out.bel hbc).top
  replace HY := hide (HY.out.bel hbc).top
  replace HZ := hide (HZ.out.bel hbc).top
  replace HRV := hide (HRV.out.bel hbc).top
  replace HO1 := hide (HO1.out.bel hbc).top
  replace HT := hide (HT.out.below hbc)
  replace HH := hide (HH.out.below hbc)
  have HO2 := hide hot.rd
  clear hot
  refine wpAnyH_more (S' := fun U => Below V3.heap.size V3 U) (fun U h => hbc.trans (h.mono hbc.size)) _ _ _ _ ?_
  clear hbc
  have hHeld := Below.refl V3.heap.size V3
  refine wpAnyH_take (i := 5) (oi := ?oi6) (v := .string (strB lt)) ?hi6 (by kernel_rfl) (by kernel_rfl) (by kernel_rfl) ?hQ6 ?hy6 (by assumption) ?rest6
  case hi6 => (simp only [List.getElem?_toArray, List.getElem?_cons_zero, List.getElem?_cons_succ]; rfl)
  case hQ6 => exact fun _ _ _ h => h
  case hy6 => exact Or.inl ⟨by rfl, fun U hU => ex_str (HO2.out.bel hU) 5 Tryd.underlying23 Tryd.underlying5 und_str rfl⟩
  simp only [Act.put, List.setIfInBounds_toArray, List.set_cons_zero, List.set_cons_succ]
  refine wpAnyH_take (i := 6) (oi := ?oi7) (v := .bool true) ?hi7 (by kernel_rfl) (by kernel_rfl) (by kernel_rfl) ?hQ7 ?hy7 (by assumption) ?rest7
  case hi7 => (simp only [List.getElem?_toArray, List.getElem?_cons_zero, List.getElem?_cons_succ]; rfl)
  case hQ7 => exact fun _ _ _ h => h
  case hy7 => exact Or.inl ⟨by rfl, fun U hU => (ex_seq (strB lt) (strB lt) rfl rfl U).trans (by rw [beq_self_eq_true])⟩
  simp only [Act.put, List.setIfInBounds_toArray, List.set_cons_zero, List.set_cons_succ]
  refine wpAnyH_take (i := 7) (oi := ?oi8) (v := .bool true) ?hi8 (by kernel_rfl) (by kernel_rfl) (by kernel_rfl) ?hQ8 ?hy8 (by assumption) ?rest8
  case hi8 => (simp only [List.getElem?_toArray, List.getElem?_cons_zero, List.getElem?_cons_succ]; rfl)
  case hQ8 => exact fun _ _ _ h => h
  case hy8 => exact Or.inl ⟨by rfl, by (intro w hSw; (try dsimp only at hSw); go_simp )⟩
  simp only [Act.put, List.setIfInBounds_toArray, List.set_cons_zero, List.set_cons_succ]
  refine wpAnyH_take (i := 8) (oi := ?oi9) (v := vx) ?hi9 (by kernel_rfl) (by kernel_rfl) (by kernel_rfl) ?hQ9 ?hy9 (by assumption) ?rest9
  case hi9 => (simp only [List.getElem?_toArray, List.getElem?_cons_zero, List.getElem?_cons_succ]; rfl)
  case hQ9 => exact fun _ _ _ h => h
  case hy9 => exact Or.inl ⟨by rfl, by (intro w hSw; (try dsimp only at hSw); go_simp )⟩
  simp only [Act.put, List.setIfInBounds_toArray, List.set_cons_zero, List.set_cons_succ]
  refine wpAnyH_take (i := 9) (oi := ?oi10) (v := .string (strB p)) ?hi10 (by kernel_rfl) (by kernel_rfl) (by kernel_rfl) ?hQ10 ?hy10 (by assumption) ?rest10
  case hi10 => (simp only [List.getElem?_toArray, List.getElem?_cons_zero, List.getElem?_cons_succ]; rfl)
  case hQ10 => exact fun _ _ _ h => h
  case hy10 => exact Or.inl ⟨by rfl, fun U hU => ex_str (HX.out.bel hU) 5 Tryd.underlying23 Tryd.underlying5 und_str rfl⟩
  simp only [Act.put, List.setIfInBounds_toArray, List.set_cons_zero, List.set_cons_succ]
  refine wpAnyH_take (i := 10) (oi := ?oi11) (v := vy) ?hi11 (by kernel_rfl) (by kernel_rfl) (by kernel_rfl) ?hQ11 ?hy11 (by assumption) ?rest11
  case hi11 => (simp only [List.getElem?_toArray, List.getElem?_cons_zero, List.getElem?_cons_succ]; rfl)
  case hQ11 => exact fun _ _ _ h => h
  case hy11 => exact Or.inl ⟨by rfl, by (intro w hSw; (try dsimp only at hSw); go_simp )⟩
  simp only [Act.put, List.setIfInBounds_toArray, List.set_cons_zero, List.set_cons_succ]
  refine wpAnyH_take (i := 11) (oi := ?oi12) (v := .string (strB p)) ?hi12 (by kernel_rfl) (by kernel_rfl) (by kernel_rfl) ?hQ12 ?hy12 (by assumption) ?rest12
  case hi12 => (simp only [List.getElem?_toArray, List.getElem?_cons_zero, List.getElem?_cons_succ]; rfl)
  case hQ12 => exact fun _ _ _ h => h
  case hy12 => exact Or.inl ⟨by rfl, fun U hU => ex_str (HY.out.bel hU) 5 Tryd.underlying23 Tryd.underlying5 und_str rfl⟩
  simp only [Act.put, List.setIfInBounds_toArray, List.set_cons_zero, List.set_cons_succ]
  refine wpAnyH_take (i := 12) (oi := ?oi13) (v := .bool true) ?hi13 (by kernel_rfl) (by kernel_rfl) (by kernel_rfl) ?hQ13 ?hy13 (by assumption) ?rest13
  case hi13 => (simp only [List.getElem?_toArray, List.getElem?_cons_zero, List.getElem?_cons_succ]; rfl)
  case hQ13 => exact fun _ _ _ h => h
  case hy13 => exact Or.inl ⟨by rfl, fun U hU => (ex_seq (strB p) (strB p) rfl rfl U).trans (by rw [beq_self_eq_true])⟩
  simp only [Act.put, List.setIfInBounds_toArray, List.set_cons_zero, List.set_cons_succ]
  refine wpAnyH_take (i := 13) (oi := ?oi14) (v := .bool true) ?hi14 (by kernel_rfl) (by kernel_rfl) (by kernel_rfl) ?hQ14 ?hy14 (by assumption) ?rest14
  case hi14 => (simp only [List.getElem?_toArray, List.getElem?_cons_zero, List.getElem?_cons_succ]; rfl)
  case hQ14 => exact fun _ _ _ h => h
  case hy14 => exact Or.inl ⟨by rfl, by (intro w hSw; (try dsimp only at hSw); go_simp )⟩
  simp only [Act.put, List.setIfInBounds_toArray, List.set_cons_zero, List.set_cons_succ]
  refine wpAnyH_take (i := 14) (oi := ?oi15) (v := .bool true) ?hi15 (by kernel_rfl) (by kernel_rfl) (by kernel_rfl) ?hQ15 ?hy15 (by assumption) ?rest15
  case hi15 => (simp only [List.getElem?_toArray, List.getElem?_cons_zero, List.getElem?_cons_succ]; rfl)
  case hQ15 => exact fun _ _ _ h => h
  case hy15 => exact Or.inl ⟨by rfl, by (intro w hSw; (try dsimp only at hSw); go_simp )⟩
  simp only [Act.put, List.setIfInBounds_toArray, List.set_cons_zero, List.set_cons_succ]
  refine wpAnyH_take (i := 15) (oi := ?oi16) (v := ev) ?hi16 (by kernel_rfl) (by kernel_rfl) (by kernel_rfl) ?hQ16 ?hy16 (by assumption) ?rest16
  case hi16 => (simp only [List.getElem?_toArray, List.getElem?_cons_zero, List.getElem?_cons_succ]; rfl)
  case hQ16 => exact fun _ _ _ h => h
  case hy16 => exact Or.inl ⟨by rfl, by (intro w hSw; (try dsimp only at hSw); go_simp )⟩
  simp only [Act.put, List.setIfInBounds_toArray, List.set_cons_zero, List.set_cons_succ]
  refine wpAnyH_take (i := 17) (oi := ?oi17) (v := .int .i64 (en : Nat)) ?hi17 (by kernel_rfl) (by kernel_rfl) (by kernel_rfl) ?hQ17 ?hy17 (by assumption) ?rest17
  case hi17 => (simp only [List.getElem?_toArray, List.getElem?_cons_zero, List.getElem?_cons_succ]; rfl)
  case hQ17 => exact fun _ _ _ h => h
  case hy17 => exact Or.inl ⟨by rfl, by (intro w hSw; (try dsimp only at hSw); go_simp )⟩
  simp only [Act.put, List.setIfInBounds_toArray, List.set_cons_zero, List.set_cons_succ]
  refine wpAnyH_ready (rs := [16]) (by kernel_rfl) (by simp) ?_
  refine AllReadyH.cons (o := ?oi18) ?hi18 (fun K hK => ?_) AllReadyH.nil
  case hi18 => (simp only [List.getElem?_toArray, List.getElem?_cons_zero, List.getElem?_cons_succ]; rfl)
  rw [if_pos (by rfl)]
  go_simp
  refine (HNU.out _ HH.out).mono ?_
  rintro e V4 ⟨rfl, hbc⟩
  go_simp
  refine hK.out _ _ ?_ (fun hHeld => ?_)
  · exact hbc
  clear hK K
  clear hHeld
  replace hb := below_bl rfl hb hbc
  replace HX := hide (HX.out.bel hbc).top
  replace HY := hide (HY.out.bel hbc).top
  replace HZ := hide (HZ.out.bel hbc).top
  replace HRV := hide (HRV.out.bel hbc).top
  replace HO1 := hide (HO1.out.bel hbc).top
  replace HO2 := hide (HO2.out.bel hbc).top
  replace HT := hide (HT.out.below hbc)
  replace HH := hide (HH.out.below hbc)
  refine wpAnyH_more (S' := fun U => Below V4.heap.size V4 U) (fun U h => hbc.trans (h.mono hbc.size)) _ _ _ _ ?_
  clear hbc
  have hHeld := Below.refl V4.heap.size V4
  refine wpAnyH_take (i := 18) (oi := ?oi19) (v := .bool true) ?hi19 (by kernel_rfl) (by kernel_rfl) (by kernel_rfl) ?hQ19 ?hy19 (by assumption) ?rest19
  case hi19 => (simp only [List.getElem?_toArray, List.getElem?_cons_zero, List.getElem?_cons_succ]; rfl)
  case hQ19 => exact fun _ _ _ h => h
  case hy19 => exact Or.inl ⟨by rfl, by (intro w hSw; go_simp)⟩
  simp only [Act.put, List.setIfInBounds_toArray, List.set_cons_zero, List.set_cons_succ]
  refine wpAnyH_take (i := 19) (oi := ?oi20) (v := .bool true) ?hi20 (by kernel_rfl) (by kernel_rfl) (by kernel_rfl) ?hQ20 ?hy20 (by assumption) ?rest20
  case hi20 => (simp only [List.getElem?_toArray, List.getElem?_cons_zero, List.getElem?_cons_succ]; rfl)
  case hQ20 => exact fun _ _ _ h => h
  case hy20 => exact Or.inl ⟨by rfl, by (intro w hSw; (try dsimp only at hSw); go_simp )⟩
  simp only [Act.put, List.setIfInBounds_toArray, List.set_cons_zero, List.set_cons_succ]
  refine wpAnyH_take (i := 20) (oi := ?oi21) (v := .bool true) ?hi21 (by kernel_rfl) (by kernel_rfl) (by kernel_rfl) ?hQ21 ?hy21 (by assumption) ?rest21
  case hi21 => (simp only [List.getElem?_toArray, List.getElem?_cons_zero, List.getElem?_cons_succ]; rfl)
  case hQ21 => exact fun _ _ _ h => h
  case hy21 => exact Or.inl ⟨by rfl, by (intro w hSw; (try dsimp only at hSw); go_simp )⟩
  simp only [Act.put, List.setIfInBounds_toArray, List.set_cons_zero, List.set_cons_succ]
  refine wpAnyH_take (i := 21) (oi := ?oi22) (v := vz) ?hi22 (by kernel_rfl) (by kernel_rfl) (by kernel_rfl) ?hQ22 ?hy22 (by assumption) ?rest22
  case hi22 => (simp only [List.getElem?_toArray, List.getElem?_cons_zero, List.getElem?_cons_succ]; rfl)
  case hQ22 => exact fun _ _ _ h => h
  case hy22 => exact Or.inl ⟨by rfl, by (intro w hSw; (try dsimp only at hSw); go_simp )⟩
  simp only [Act.put, List.setIfInBounds_toArray, List.set_cons_zero, List.set_cons_succ]
  refine wpAnyH_take (i := 22) (oi := ?oi23) (v := .string (strB l)) ?hi23 (by kernel_rfl) (by kernel_rfl) (by kernel_rfl) ?hQ23 ?hy23 (by assumption) ?rest23
  case hi23 => (simp only [List.getElem?_toArray, List.getElem?_cons_zero, List.getElem?_cons_succ]; rfl)
  case hQ23 => exact fun _ _ _ h => h
  case hy23 => exact Or.inl ⟨by rfl, fun U hU => ex_str (HZ.out.bel hU) 5 Tryd.underlying23 Tryd.underlying5 und_str rfl⟩
  simp only [Act.put, List.setIfInBounds_toArray, List.set_cons_zero, List.set_cons_succ]
  refine wpAnyH_take (i := 23) (oi := ?oi24) (v := .slice ad l.length cap) ?hi24 (by kernel_rfl) (by kernel_rfl) (by kernel_rfl) ?hQ24 ?hy24 (by assumption) ?rest24
  case hi24 => (simp only [List.getElem?_toArray, List.getElem?_cons_zero, List.getElem?_cons_succ]; rfl)
  case hQ24 => exact fun _ _ _ h => h
  case hy24 => exact Or.inl ⟨by rfl, by (intro w hSw; (try dsimp only at hSw); go_simp )⟩
  simp only [Act.put, List.setIfInBounds_toArray, List.set_cons_zero, List.set_cons_succ]
  refine wpAnyH_take (i := 24) (oi := ?oi25) (v := .string (strB l)) ?hi25 (by kernel_rfl) (by kernel_rfl) (by kernel_rfl) ?hQ25 ?hy25 (by assumption) ?rest25
  case hi25 => (simp only [List.getElem?_toArray, List.getElem?_cons_zero, List.getElem?_cons_succ]; rfl)
  case hQ25 => exact fun _ _ _ h => h
  case hy25 => exact Or.inl ⟨by rfl, fun U hU => ex_str (HRV.out.bel hU) 5 Tryd.underlying23 Tryd.underlying5 und_str rfl⟩
  simp only [Act.put, List.setIfInBounds_toArray, List.set_cons_zero, List.set_cons_succ]
  refine wpAnyH_take (i := 25) (oi := ?oi26) (v := .bool true) ?hi26 (by kernel_rfl) (by kernel_rfl) (by kernel_rfl) ?hQ26 ?hy26 (by assumption) ?rest26
  case hi26 => (simp only [List.getElem?_toArray, List.getElem?_cons_zero, List.getElem?_cons_succ]; rfl)
  case hQ26 => exact fun _ _ _ h => h
  case hy26 => exact Or.inl ⟨by rfl, fun U hU => (ex_seq (strB l) (strB l) rfl rfl U).trans (by rw [beq_self_eq_true])⟩
  simp only [Act.put, List.setIfInBounds_toArray, List.set_cons_zero, List.set_cons_succ]
  refine wpAnyH_take (i := 26) (oi := ?oi27) (v := .bool true) ?hi27 (by kernel_rfl) (by kernel_rfl) (by kernel_rfl) ?hQ27 ?hy27 (by assumption) ?rest27
  case hi27 => (simp only [List.getElem?_toArray, List.getElem?_cons_zero, List.getElem?_cons_succ]; rfl)
  case hQ27 => exact fun _ _ _ h => h
  case hy27 => exact Or.inl ⟨by rfl, by (intro w hSw; (try dsimp only at hSw); go_simp )⟩
  simp only [Act.put, List.setIfInBounds_toArray, List.set_cons_zero, List.set_cons_succ]
  refine wpAnyH_take (i := 27) (oi := ?oi28) (v := .bool true) ?hi28 (by kernel_rfl) (by kernel_rfl) (by kernel_rfl) ?hQ28 ?hy28 (by assumption) ?rest28
  case hi28 => (simp only [List.getElem?_toArray, List.getElem?_cons_zero, List.getElem?_cons_succ]; rfl)
  case hQ28 => exact fun _ _ _ h => h
  case hy28 => exact Or.inl ⟨by rfl, by (intro w hSw; (try dsimp only at hSw); go_simp )⟩
  simp only [Act.put, List.setIfInBounds_toArray, List.set_cons_zero, List.set_cons_succ]
  refine wpAnyH_take (i := 28) (oi := ?oi29) (v := .nilIface) ?hi29 (by kernel_rfl) (by kernel_rfl) (by kernel_rfl) ?hQ29 ?hy29 (by assumption) ?rest29
  case hi29 => (simp only [List.getElem?_toArray, List.getElem?_cons_zero, List.getElem?_cons_succ]; rfl)
  case hQ29 => exact fun _ _ _ h => h
  case hy29 => exact Or.inl ⟨by rfl, by (intro w hSw; (try dsimp only at hSw); go_simp )⟩
  simp only [Act.put, List.setIfInBounds_toArray, List.set_cons_zero, List.set_cons_succ]
  refine wpAnyH_take (i := 29) (oi := ?oi30) (v := .bool true) ?hi30 (by kernel_rfl) (by kernel_rfl) (by kernel_rfl) ?hQ30 ?hy30 (by assumption) ?rest30
  case hi30 => (simp only [List.getElem?_toArray, List.getElem?_cons_zero, List.getElem?_cons_succ]; rfl)
  case hQ30 => exact fun _ _ _ h => h
  case hy30 => exact Or.inl ⟨by rfl, by (intro w hSw; go_simp)⟩
  simp only [Act.put, List.setIfInBounds_toArray, List.set_cons_zero, List.set_cons_succ]
  refine wpAnyH_take (i := 30) (oi := ?oi31) (v := .bool true) ?hi31 (by kernel_rfl) (by kernel_rfl) (by kernel_rfl) ?hQ31 ?hy31 (by assumption) ?rest31
  case hi31 => (simp only [List.getElem?_toArray, List.getElem?_cons_zero, List.getElem?_cons_succ]; rfl)
  case hQ31 => exact fun _ _ _ h => h
  case hy31 => exact Or.inl ⟨by rfl, by (intro w hSw; (try dsimp only at hSw); go_simp )⟩
  simp only [Act.put, List.setIfInBounds_toArray, List.set_cons_zero, List.set_cons_succ]
  refine wpAnyH_take (i := 31) (oi := ?oi32) (v := .bool true) ?hi32 (by kernel_rfl) (by kernel_rfl) (by kernel_rfl) ?hQ32 ?hy32 (by assumption) ?rest32
  case hi32 => (simp only [List.getElem?_toArray, List.getElem?_cons_zero, List.getElem?_cons_succ]; rfl)
  case hQ32 => exact fun _ _ _ h => h
  case hy32 => exact Or.inl ⟨by rfl, by (intro w hSw; (try dsimp only at hSw); go_simp )⟩
  simp only [Act.put, List.setIfInBounds_toArray, List.set_cons_zero, List.set_cons_succ]
  refine wpAnyH_ready (rs := [32]) (by kernel_rfl) (by simp) ?_
  refine AllReadyH.cons (o := ?oi33) ?hi33 (fun K hK => ?_) AllReadyH.nil
  case hi33 => (simp only [List.getElem?_toArray, List.getElem?_cons_zero, List.getElem?_cons_succ]; rfl)
  rw [if_pos (by rfl)]
  go_simp
  refine (HS.out _ HT.out).mono ?_
  rintro e V5 ⟨rfl, hbc⟩
  go_simp
  refine hK.out _ _ ?_ (fun hHeld => ?_)
  · exact hbc
  clear hK K
  clear hHeld
  replace hb := below_bl rfl hb hbc
  refine wpAnyH_more (S' := fun U => Below V5.heap.size V5 U) (fun U h => hbc.trans (h.mono hbc.size)) _ _ _ _ ?_
  clear hbc
  have hHeld := Below.refl V5.heap.size V5
  refine wpAnyH_take (i := 33) (oi := ?oi34) (v := .bool true) ?hi34 (by kernel_rfl) (by kernel_rfl) (by kernel_rfl) ?hQ34 ?hy34 (by assumption) ?rest34
  case hi34 => (simp only [List.getElem?_toArray, List.getElem?_cons_zero, List.getElem?_cons_succ]; rfl)
  case hQ34 => exact fun _ _ _ h => h
  case hy34 => exact Or.inl ⟨by rfl, by (intro w hSw; (try dsimp only at hSw); go_simp )⟩
  simp only [Act.put, List.setIfInBounds_toArray, List.set_cons_zero, List.set_cons_succ]
  refine wpAnyH_take (i := 34) (oi := ?oi35) (v := .bool true) ?hi35 (by kernel_rfl) (by kernel_rfl) (by kernel_rfl) ?hQ35 ?hy35 (by assumption) ?rest35
  case hi35 => (simp only [List.getElem?_toArray, List.getElem?_cons_zero, List.getElem?_cons_succ]; rfl)
  case hQ35 => exact fun _ _ _ h => h
  case hy35 => exact Or.inl ⟨by rfl, by (intro w hSw; (try dsimp only at hSw); go_simp )⟩
  simp only [Act.put, List.setIfInBounds_toArray, List.set_cons_zero, List.set_cons_succ]
  refine wpAnyH_done (by kernel_rfl) ?_ _
  clear hHeld
  go_wp2
  go_ret
  exact ⟨rfl, hb⟩
theorem tails_walk {v : Value} {l : List Nat} (w : World) (h : Rd w.heap.size w v l) (hH : HandleAt w) (hT : TabAt w) :
    Calls Tryd.prog 4 #[v] w fun e w' => e = .returned (.bool true) ∧ Below w.heap.size w w' := by
  by_cases hle : l.length ≤ 20000
  · exact tails_small w h hle hH hT
  · have HS := hide (sure_any w hT)
    have hbig : 20000 < l.length := by omega
    obtain ⟨ad, cap, rfl, hcap, hmax⟩ := h.form
    clear h hT hH hle
    go_enter Tryd.func4, Tryd.ntmps4
    go_wp2_with (go_at_call 8; (with_reducible refine (HS.out).mono ?_); rintro e w' ⟨rfl, hb⟩)
    go_ret
    exact ⟨rfl, hb⟩
end Go.Proofs.YtnokcfaipbolkaaDoor
