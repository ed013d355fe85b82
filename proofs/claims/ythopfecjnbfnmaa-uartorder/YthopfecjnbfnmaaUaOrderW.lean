/-
  UartOrder, walked.
-/
import Derived.Test.YthopfecjnbfnmaaUaOrdR
import Derived.Test.YthopfecjnbfnmaaUaPut
import Derived.Test.YthopfecjnbfnmaaUaRead
import Derived.Test.YthopfecjnbfnmaaUaWrite
import Derived.Test.YthopfecjnbfnmaaUaTick
import Derived.Test.YthopfecjnbfnmaaUaSure
namespace Go.Proofs.Ythopfecjnbfnmaa
open Go.RowKit
set_option linter.unusedVariables false

attribute [local go_sem] U.at0 U.at1 U.at2 U.at3 U.at4 U.at5 U.at6 U.at7 U.at8 U.at9 U.at10 U.at11 U.at12 U.at13 U.at14 U.at15 U.at16 U.at17 U.at18 U.at19 U.at20 U.at21 U.at22 U.at23 U.at24 U.at25 U.at26 U.at27 U.at28 U.at29 U.at30 U.at31 U.at32 U.at33 U.at34 U.at35 U.at36 U.at37 U.at38 U.at39 U.at40 U.at41
set_option maxRecDepth 20000 in
set_option maxHeartbeats 4000000 in
theorem order_walk (p : Option Addr) (n c0 : Nat) (hn : n ≤ 9223372036854775807) (f : Nat → A2) (w : World) (hA : ActsAt p n f w) :
    Calls Try.prog 4 #[.slice p n c0] w fun e w' => e = .returned (.bool true) ∧ Below w.heap.size w w' := by
  have HS := hide (fun w => sure_any w)
  have HA := hide hA
  clear hA
  go_enter Try.func4, Try.ntmps4
  go_wp2_with (first | ((with_reducible refine al_up w.heap.size ?_ ?_); exact rfl; intro W hr hb hz) | ((with_reducible refine st_up w.heap.size _ zeroU hr ?_ ?_ ?_); exact rfl; exact rfl; intro W hnew ho; replace hr := hnew; replace hb := ho.bel _ _ (by omega) hb))
  go_loopw [4, 5, 6, 7] (fun v4 v5 v6 v7 wr => OrdRel w n v4 v5 v6 v7 wr) (fun _ _ _ v7 _ => 200 - (intOf v7).toNat)
  case atStart => exact ⟨0, zeroU, [], [], false, by omega, by omega, rfl, rfl, ord_zero, hr, Qat.nil _ _, Qat.nil _ _, (fun g h => by cases h), hb⟩
  case round =>
    clear hr hb hz hnew ho
    obtain ⟨k, s, li, lo, ov, hkn, hk2, rfl, rfl, hO, hr, h4, h5, hf, hb⟩ := hrel
    obtain ⟨ad4, cap4, rfl, hc4, hm4⟩ := h4.form
    obtain ⟨ad5, cap5, rfl, hc5, hm5⟩ := h5.form
    have H4 := hide h4
    have H5 := hide h5
    have HF := hide hf
    have HO := hide hO
    have ok := hO.ok
    have hi16 := hO.li16
    have ho16 := hO.lo16
    unfold maxLen at hm4 hm5
    clear h4 h5 hf hO
    by_cases hkn2 : k < n
    · by_cases hk3 : k < 200
      · obtain ⟨hc, b, o, hp, ck, cc⟩ := HA.out k hkn2
        subst hp
        replace ck := (hb.cell (p := ⟨b, o + k * 2, none⟩) (lt_of_cell ck)).trans ck
        have blt : b < w.heap.size := lt_of_cell cc
        have ccw := cc
        replace cc := (hb.cell (p := ⟨b, o + k * 2 + 1, none⟩) blt).trans cc
        obtain ⟨m, hm, hm8⟩ := eight_nat (f k).kd
        obtain ⟨c, hcc⟩ : ∃ c, (f k).c = c := ⟨_, rfl⟩
        rw [hcc] at cc ccw hc
        generalize (f k).kd = kd at ck hm
        have kn : (k : Int) < (n : Int) := by omega
        have k200 : (k : Int) < 200 := by omega
        have m8 : (m : Int) < 8 := by omega
        clear hcc
        by_cases hm0 : m = 0
        · subst hm0
          by_cases hlq : li.length < 16
          · as_aux_lemma =>
              have hO2 := ord_put_room HO.out hlq hc
              have HP := hide (fun w => uput_any s ok c w)
              obtain ⟨L, hL⟩ : ∃ L, li ++ [c] = L := ⟨_, rfl⟩
              rw [hL] at hO2
              replace hL := hide hL
              generalize putV s c = z at hO2 HP
              have HZ := hide hO2
              clear hO2
              have z1 : (z.rx.n != (L.length : Int)) = false := by rw [HZ.out.rn]; simp
              have z2 : (z.tx.n != (lo.length : Int)) = false := by rw [HZ.out.tn]; simp
              have z3 : (z.ov == ov) = true := by rw [HZ.out.ov]; simp
              have z4 := HZ.out.ov
              have HC := hide (fun w => check_ok z HZ.out.ok HZ.out.may w)
              have q16 : (li.length : Int) < 16 := by omega
              go_wp2_with (first | fail)
              refine wp_region_held_drew (S := (fun V => Below w.heap.size w V)) (by kernel_rfl) ?_ (fun hHeld => ?_)
              · exact hb.drew
              replace hr := hr.dr
              replace H4 := hide H4.out.dr
              replace H5 := hide H5.out.dr
              generalize World.drew _ = V at hHeld hr H4 H5 ⊢
              clear hb
              refine wpAnyH_take (i := 1) (oi := ?oi1) (v := .slice (some ⟨b, o, none⟩) n c0) ?hi1 (by kernel_rfl) (by kernel_rfl) (by kernel_rfl) ?hQ1 ?hy1 (by assumption) ?rest1
              case hi1 => (simp only [List.getElem?_toArray, List.getElem?_cons_zero, List.getElem?_cons_succ]; rfl)
              case hQ1 => exact fun _ _ _ h => h
              case hy1 => exact Or.inl ⟨by rfl, by (intro w hSw; (try dsimp only at hSw); go_simp )⟩
              simp only [Act.put, List.setIfInBounds_toArray, List.set_cons_zero, List.set_cons_succ]
              refine wpAnyH_take (i := 2) (oi := ?oi2) (v := .int .i64 (k : Nat)) ?hi2 (by kernel_rfl) (by kernel_rfl) (by kernel_rfl) ?hQ2 ?hy2 (by assumption) ?rest2
              case hi2 => (simp only [List.getElem?_toArray, List.getElem?_cons_zero, List.getElem?_cons_succ]; rfl)
              case hQ2 => exact fun _ _ _ h => h
              case hy2 => exact Or.inl ⟨by rfl, by (intro w hSw; (try dsimp only at hSw); go_simp )⟩
              simp only [Act.put, List.setIfInBounds_toArray, List.set_cons_zero, List.set_cons_succ]
              refine wpAnyH_take (i := 3) (oi := ?oi3) (v := .pointer (some ⟨b, o + k * 2, none⟩)) ?hi3 (by kernel_rfl) (by kernel_rfl) (by kernel_rfl) ?hQ3 ?hy3 (by assumption) ?rest3
              case hi3 => (simp only [List.getElem?_toArray, List.getElem?_cons_zero, List.getElem?_cons_succ]; rfl)
              case hQ3 => exact fun _ _ _ h => h
              case hy3 => exact Or.inl ⟨by rfl, by (intro w hSw; (try dsimp only at hSw); go_simp )⟩
              simp only [Act.put, List.setIfInBounds_toArray, List.set_cons_zero, List.set_cons_succ]
              refine wpAnyH_take (i := 4) (oi := ?oi4) (v := .pointer (some ⟨b, o + k * 2 + 1, none⟩)) ?hi4 (by kernel_rfl) (by kernel_rfl) (by kernel_rfl) ?hQ4 ?hy4 (by assumption) ?rest4
              case hi4 => (simp only [List.getElem?_toArray, List.getElem?_cons_zero, List.getElem?_cons_succ]; rfl)
              case hQ4 => exact fun _ _ _ h => h
              case hy4 => exact Or.inl ⟨by rfl, by (intro w hSw; (try dsimp only at hSw); go_simp )⟩
              simp only [Act.put, List.setIfInBounds_toArray, List.set_cons_zero, List.set_cons_succ]
              refine wpAnyH_take (i := 5) (oi := ?oi5) (v := .int .u8 (c : Nat)) ?hi5 (by kernel_rfl) (by kernel_rfl) (by kernel_rfl) ?hQ5 ?hy5 (by assumption) ?rest5
              case hi5 => (simp only [List.getElem?_toArray, List.getElem?_cons_zero, List.getElem?_cons_succ]; rfl)
              case hQ5 => exact fun _ _ _ h => h
              case hy5 => exact y_cell b (o + k * 2 + 1) _ (fun V hV => (hV.cell (p := ⟨b, o + k * 2 + 1, none⟩) blt).trans ccw) _ Try.underlying5 rfl rfl
              simp only [Act.put, List.setIfInBounds_toArray, List.set_cons_zero, List.set_cons_succ]
              refine wpAnyH_ready (rs := [0]) (by kernel_rfl) (by simp) ?_
              refine AllReadyH.cons (o := ?oi6) ?hi6 (fun K hK => ?_) AllReadyH.nil
              case hi6 => (simp only [List.getElem?_toArray, List.getElem?_cons_zero]; rfl)
              rw [if_pos (by rfl)]
              (with_reducible refine s_ldu w.heap.size s hr ?_ ?_)
              · exact rfl
              have hH2 := hide hHeld
              clear hHeld
              refine hK.out _ _ ?_ (fun hHeld => ?_)
              · exact hH2.out
              clear hK K
              clear hH2
              refine wpAnyH_ready (rs := [6]) (by kernel_rfl) (by simp) ?_
              refine AllReadyH.cons (o := ?oi7) ?hi7 (fun K hK => ?_) AllReadyH.nil
              case hi7 => (simp only [List.getElem?_toArray, List.getElem?_cons_zero, List.getElem?_cons_succ]; rfl)
              go_simp
              (with_reducible refine (HP.out _).mono ?_)
              rintro e V ⟨rfl, hbc⟩
              have hH2 := hide (below_bl rfl hHeld hbc)
              replace hr := hr.bl hbc
              replace H4 := hide (H4.out.bl hbc)
              replace H5 := hide (H5.out.bl hbc)
              clear hHeld hbc
              go_simp
              refine hK.out _ _ ?_ (fun hHeld => ?_)
              · exact hH2.out
              clear hK K
              clear hH2
              refine wpAnyH_ready (rs := [7]) (by kernel_rfl) (by simp) ?_
              refine AllReadyH.cons (o := ?oi8) ?hi8 (fun K hK => ?_) AllReadyH.nil
              case hi8 => (simp only [List.getElem?_toArray, List.getElem?_cons_zero, List.getElem?_cons_succ]; rfl)
              rw [if_pos (by rfl)]
              (with_reducible refine s_up w.heap.size _ z hr ?_ ?_ ?_)
              · exact rfl
              · exact rfl
              intro V hnew ho
              have hH2 := hide (ho.bel _ _ (Nat.le_refl _) hHeld)
              replace H4 := hide (H4.out.only ho (by omega))
              replace H5 := hide (H5.out.only ho (by omega))
              replace hr := hnew
              clear hHeld hnew ho
              refine hK.out _ _ ?_ (fun hHeld => ?_)
              · exact hH2.out
              clear hK K
              clear hH2
              refine wpAnyH_done (by kernel_rfl) ?_ _
              have hb := hHeld
              clear hHeld
              have cc := (hb.cell (p := ⟨b, o + k * 2 + 1, none⟩) blt).trans ccw
              obtain ⟨NB, hNB⟩ : ∃ n, V.heap.size = n := ⟨_, rfl⟩
              have lNB : w.heap.size + 1 ≤ NB := by have := hr.lt; omega
              replace hNB := hide hNB
              go_wp2_with (first | ((with_reducible refine bs_1 NB c ?_ ?_ ?_); exact hNB.out; exact rfl; intro W hs1 hb' hz3; replace hr := hr.bl (hNB.out ▸ hb'); replace H4 := hide (H4.out.bl (hNB.out ▸ hb')); replace H5 := hide (H5.out.bl (hNB.out ▸ hb')); replace hb := hb.trans (hb'.mono (by omega))) | ((with_reducible refine op_appx (w.heap.size + 1) NB c H4.out ?_ ?_ ?_ ?_ ?_ ?_); (have := hs1.lt; omega); exact hlq; exact (hs1.cell 0).trans rfl; exact rfl; exact rfl; intro W v' hq1 hk1 hsz1 hbel1 hob1; have HX := hide (far_after H4.out H5.out (HF.out) hk1 hob1); replace hr := row_after H4.out hr (by omega) hk1; replace hb := hbel1 _ _ (by omega) hb; replace H5 := hide HX.out.1; replace HF := hide (HX.out.2); rw [hL.out] at hq1; obtain ⟨ad', cap', ev, hc1, hc2⟩ := hq1.form; subst ev; replace H4 := hide hq1; clear hq1 hk1 hsz1 hbel1 hob1 HX hs1) | ((with_reducible refine ld_up w.heap.size z hr ?_ ?_ ?_); exact rfl; exact rfl) | (go_at_call 14; (with_reducible refine (HC.out _).mono ?_); rintro e W ⟨rfl, hbc⟩; replace hr := hr.bl hbc; replace H4 := hide (H4.out.bl hbc); replace H5 := hide (H5.out.bl hbc); have fx := hr.cell; replace hb := below_bl rfl hb hbc))
              go_roundw
              case rel => exact ⟨k + 1, z, L, lo, ov, by omega, by omega, by go_num, rfl, HZ.out, hr, H4.out, H5.out, HF.out, hb⟩
              case measure => simp [intOf]; omega
          · as_aux_lemma =>
              have hO2 := ord_put_full HO.out hlq c
              have HP := hide (fun w => uput_any s ok c w)
              generalize putV s c = z at hO2 HP
              have HZ := hide hO2
              clear hO2
              have z1 : (z.rx.n != (li.length : Int)) = false := by rw [HZ.out.rn]; simp
              have z2 : (z.tx.n != (lo.length : Int)) = false := by rw [HZ.out.tn]; simp
              have z3 : (z.ov == true) = true := by rw [HZ.out.ov]; simp
              have z4 := HZ.out.ov
              have HC := hide (fun w => check_ok z HZ.out.ok HZ.out.may w)
              have q16 : decide ((li.length : Int) < 16) = false := by simp; omega
              have q16n : decide (li.length < 16) = false := by simp; omega
              go_wp2_with (first | fail)
              refine wp_region_held_drew (S := (fun V => Below w.heap.size w V)) (by kernel_rfl) ?_ (fun hHeld => ?_)
              · exact hb.drew
              replace hr := hr.dr
              replace H4 := hide H4.out.dr
              replace H5 := hide H5.out.dr
              generalize World.drew _ = V at hHeld hr H4 H5 ⊢
              clear hb
              refine wpAnyH_take (i := 1) (oi := ?oi9) (v := .slice (some ⟨b, o, none⟩) n c0) ?hi9 (by kernel_rfl) (by kernel_rfl) (by kernel_rfl) ?hQ9 ?hy9 (by assumption) ?rest9
              case hi9 => (simp only [List.getElem?_toArray, List.getElem?_cons_zero, List.getElem?_cons_succ]; rfl)
              case hQ9 => exact fun _ _ _ h => h
              case hy9 => exact Or.inl ⟨by rfl, by (intro w hSw; (try dsimp only at hSw); go_simp )⟩
              simp only [Act.put, List.setIfInBounds_toArray, List.set_cons_zero, List.set_cons_succ]
              refine wpAnyH_take (i := 2) (oi := ?oi10) (v := .int .i64 (k : Nat)) ?hi10 (by kernel_rfl) (by kernel_rfl) (by kernel_rfl) ?hQ10 ?hy10 (by assumption) ?rest10
              case hi10 => (simp only [List.getElem?_toArray, List.getElem?_cons_zero, List.getElem?_cons_succ]; rfl)
              case hQ10 => exact fun _ _ _ h => h
              case hy10 => exact Or.inl ⟨by rfl, by (intro w hSw; (try dsimp only at hSw); go_simp )⟩
              simp only [Act.put, List.setIfInBounds_toArray, List.set_cons_zero, List.set_cons_succ]
              refine wpAnyH_take (i := 3) (oi := ?oi11) (v := .pointer (some ⟨b, o + k * 2, none⟩)) ?hi11 (by kernel_rfl) (by kernel_rfl) (by kernel_rfl) ?hQ11 ?hy11 (by assumption) ?rest11
              case hi11 => (simp only [List.getElem?_toArray, List.getElem?_cons_zero, List.getElem?_cons_succ]; rfl)
              case hQ11 => exact fun _ _ _ h => h
              case hy11 => exact Or.inl ⟨by rfl, by (intro w hSw; (try dsimp only at hSw); go_simp )⟩
              simp only [Act.put, List.setIfInBounds_toArray, List.set_cons_zero, List.set_cons_succ]
              refine wpAnyH_take (i := 4) (oi := ?oi12) (v := .pointer (some ⟨b, o + k * 2 + 1, none⟩)) ?hi12 (by kernel_rfl) (by kernel_rfl) (by kernel_rfl) ?hQ12 ?hy12 (by assumption) ?rest12
              case hi12 => (simp only [List.getElem?_toArray, List.getElem?_cons_zero, List.getElem?_cons_succ]; rfl)
              case hQ12 => exact fun _ _ _ h => h
              case hy12 => exact Or.inl ⟨by rfl, by (intro w hSw; (try dsimp only at hSw); go_simp )⟩
              simp only [Act.put, List.setIfInBounds_toArray, List.set_cons_zero, List.set_cons_succ]
              refine wpAnyH_take (i := 5) (oi := ?oi13) (v := .int .u8 (c : Nat)) ?hi13 (by kernel_rfl) (by kernel_rfl) (by kernel_rfl) ?hQ13 ?hy13 (by assumption) ?rest13
              case hi13 => (simp only [List.getElem?_toArray, List.getElem?_cons_zero, List.getElem?_cons_succ]; rfl)
              case hQ13 => exact fun _ _ _ h => h
              case hy13 => exact y_cell b (o + k * 2 + 1) _ (fun V hV => (hV.cell (p := ⟨b, o + k * 2 + 1, none⟩) blt).trans ccw) _ Try.underlying5 rfl rfl
              simp only [Act.put, List.setIfInBounds_toArray, List.set_cons_zero, List.set_cons_succ]
              refine wpAnyH_ready (rs := [0]) (by kernel_rfl) (by simp) ?_
              refine AllReadyH.cons (o := ?oi14) ?hi14 (fun K hK => ?_) AllReadyH.nil
              case hi14 => (simp only [List.getElem?_toArray, List.getElem?_cons_zero]; rfl)
              rw [if_pos (by rfl)]
              (with_reducible refine s_ldu w.heap.size s hr ?_ ?_)
              · exact rfl
              have hH2 := hide hHeld
              clear hHeld
              refine hK.out _ _ ?_ (fun hHeld => ?_)
              · exact hH2.out
              clear hK K
              clear hH2
              refine wpAnyH_ready (rs := [6]) (by kernel_rfl) (by simp) ?_
              refine AllReadyH.cons (o := ?oi15) ?hi15 (fun K hK => ?_) AllReadyH.nil
              case hi15 => (simp only [List.getElem?_toArray, List.getElem?_cons_zero, List.getElem?_cons_succ]; rfl)
              go_simp
              (with_reducible refine (HP.out _).mono ?_)
              rintro e V ⟨rfl, hbc⟩
              have hH2 := hide (below_bl rfl hHeld hbc)
              replace hr := hr.bl hbc
              replace H4 := hide (H4.out.bl hbc)
              replace H5 := hide (H5.out.bl hbc)
              clear hHeld hbc
              go_simp
              refine hK.out _ _ ?_ (fun hHeld => ?_)
              · exact hH2.out
              clear hK K
              clear hH2
              refine wpAnyH_ready (rs := [7]) (by kernel_rfl) (by simp) ?_
              refine AllReadyH.cons (o := ?oi16) ?hi16 (fun K hK => ?_) AllReadyH.nil
              case hi16 => (simp only [List.getElem?_toArray, List.getElem?_cons_zero, List.getElem?_cons_succ]; rfl)
              rw [if_pos (by rfl)]
              (with_reducible refine s_up w.heap.size _ z hr ?_ ?_ ?_)
              · exact rfl
              · exact rfl
              intro V hnew ho
              have hH2 := hide (ho.bel _ _ (Nat.le_refl _) hHeld)
              replace H4 := hide (H4.out.only ho (by omega))
              replace H5 := hide (H5.out.only ho (by omega))
              replace hr := hnew
              clear hHeld hnew ho
              refine hK.out _ _ ?_ (fun hHeld => ?_)
              · exact hH2.out
              clear hK K
              clear hH2
              refine wpAnyH_done (by kernel_rfl) ?_ _
              have hb := hHeld
              clear hHeld
              have cc := (hb.cell (p := ⟨b, o + k * 2 + 1, none⟩) blt).trans ccw
              go_wp2_with (first | ((with_reducible refine ld_up w.heap.size z hr ?_ ?_ ?_); exact rfl; exact rfl) | (go_at_call 14; (with_reducible refine (HC.out _).mono ?_); rintro e W ⟨rfl, hbc⟩; replace hr := hr.bl hbc; replace H4 := hide (H4.out.bl hbc); replace H5 := hide (H5.out.bl hbc); have fx := hr.cell; replace hb := below_bl rfl hb hbc))
              go_roundw
              case rel => exact ⟨k + 1, z, li, lo, true, by omega, by omega, by go_num, rfl, HZ.out, hr, H4.out, H5.out, HF.out, hb⟩
              case measure => simp [intOf]; omega
        by_cases hm1 : m = 1
        · subst hm1
          by_cases hlq : li.length < 16
          · as_aux_lemma =>
              have hO2 := ord_put_room HO.out hlq hc
              have HP := hide (fun w => uput_any s ok c w)
              obtain ⟨L, hL⟩ : ∃ L, li ++ [c] = L := ⟨_, rfl⟩
              rw [hL] at hO2
              replace hL := hide hL
              generalize putV s c = z at hO2 HP
              have HZ := hide hO2
              clear hO2
              have z1 : (z.rx.n != (L.length : Int)) = false := by rw [HZ.out.rn]; simp
              have z2 : (z.tx.n != (lo.length : Int)) = false := by rw [HZ.out.tn]; simp
              have z3 : (z.ov == ov) = true := by rw [HZ.out.ov]; simp
              have z4 := HZ.out.ov
              have HC := hide (fun w => check_ok z HZ.out.ok HZ.out.may w)
              have q16 : (li.length : Int) < 16 := by omega
              go_wp2_with (first | fail)
              refine wp_region_held_drew (S := (fun V => Below w.heap.size w V)) (by kernel_rfl) ?_ (fun hHeld => ?_)
              · exact hb.drew
              replace hr := hr.dr
              replace H4 := hide H4.out.dr
              replace H5 := hide H5.out.dr
              generalize World.drew _ = V at hHeld hr H4 H5 ⊢
              clear hb
              refine wpAnyH_take (i := 1) (oi := ?oi17) (v := .slice (some ⟨b, o, none⟩) n c0) ?hi17 (by kernel_rfl) (by kernel_rfl) (by kernel_rfl) ?hQ17 ?hy17 (by assumption) ?rest17
              case hi17 => (simp only [List.getElem?_toArray, List.getElem?_cons_zero, List.getElem?_cons_succ]; rfl)
              case hQ17 => exact fun _ _ _ h => h
              case hy17 => exact Or.inl ⟨by rfl, by (intro w hSw; (try dsimp only at hSw); go_simp )⟩
              simp only [Act.put, List.setIfInBounds_toArray, List.set_cons_zero, List.set_cons_succ]
              refine wpAnyH_take (i := 2) (oi := ?oi18) (v := .int .i64 (k : Nat)) ?hi18 (by kernel_rfl) (by kernel_rfl) (by kernel_rfl) ?hQ18 ?hy18 (by assumption) ?rest18
              case hi18 => (simp only [List.getElem?_toArray, List.getElem?_cons_zero, List.getElem?_cons_succ]; rfl)
              case hQ18 => exact fun _ _ _ h => h
              case hy18 => exact Or.inl ⟨by rfl, by (intro w hSw; (try dsimp only at hSw); go_simp )⟩
              simp only [Act.put, List.setIfInBounds_toArray, List.set_cons_zero, List.set_cons_succ]
              refine wpAnyH_take (i := 3) (oi := ?oi19) (v := .pointer (some ⟨b, o + k * 2, none⟩)) ?hi19 (by kernel_rfl) (by kernel_rfl) (by kernel_rfl) ?hQ19 ?hy19 (by assumption) ?rest19
              case hi19 => (simp only [List.getElem?_toArray, List.getElem?_cons_zero, List.getElem?_cons_succ]; rfl)
              case hQ19 => exact fun _ _ _ h => h
              case hy19 => exact Or.inl ⟨by rfl, by (intro w hSw; (try dsimp only at hSw); go_simp )⟩
              simp only [Act.put, List.setIfInBounds_toArray, List.set_cons_zero, List.set_cons_succ]
              refine wpAnyH_take (i := 4) (oi := ?oi20) (v := .pointer (some ⟨b, o + k * 2 + 1, none⟩)) ?hi20 (by kernel_rfl) (by kernel_rfl) (by kernel_rfl) ?hQ20 ?hy20 (by assumption) ?rest20
              case hi20 => (simp only [List.getElem?_toArray, List.getElem?_cons_zero, List.getElem?_cons_succ]; rfl)
              case hQ20 => exact fun _ _ _ h => h
              case hy20 => exact Or.inl ⟨by rfl, by (intro w hSw; (try dsimp only at hSw); go_simp )⟩
              simp only [Act.put, List.setIfInBounds_toArray, List.set_cons_zero, List.set_cons_succ]
              refine wpAnyH_take (i := 5) (oi := ?oi21) (v := .int .u8 (c : Nat)) ?hi21 (by kernel_rfl) (by kernel_rfl) (by kernel_rfl) ?hQ21 ?hy21 (by assumption) ?rest21
              case hi21 => (simp only [List.getElem?_toArray, List.getElem?_cons_zero, List.getElem?_cons_succ]; rfl)
              case hQ21 => exact fun _ _ _ h => h
              case hy21 => exact y_cell b (o + k * 2 + 1) _ (fun V hV => (hV.cell (p := ⟨b, o + k * 2 + 1, none⟩) blt).trans ccw) _ Try.underlying5 rfl rfl
              simp only [Act.put, List.setIfInBounds_toArray, List.set_cons_zero, List.set_cons_succ]
              refine wpAnyH_ready (rs := [0]) (by kernel_rfl) (by simp) ?_
              refine AllReadyH.cons (o := ?oi22) ?hi22 (fun K hK => ?_) AllReadyH.nil
              case hi22 => (simp only [List.getElem?_toArray, List.getElem?_cons_zero]; rfl)
              rw [if_pos (by rfl)]
              (with_reducible refine s_ldu w.heap.size s hr ?_ ?_)
              · exact rfl
              have hH2 := hide hHeld
              clear hHeld
              refine hK.out _ _ ?_ (fun hHeld => ?_)
              · exact hH2.out
              clear hK K
              clear hH2
              refine wpAnyH_ready (rs := [6]) (by kernel_rfl) (by simp) ?_
              refine AllReadyH.cons (o := ?oi23) ?hi23 (fun K hK => ?_) AllReadyH.nil
              case hi23 => (simp only [List.getElem?_toArray, List.getElem?_cons_zero, List.getElem?_cons_succ]; rfl)
              go_simp
              (with_reducible refine (HP.out _).mono ?_)
              rintro e V ⟨rfl, hbc⟩
              have hH2 := hide (below_bl rfl hHeld hbc)
              replace hr := hr.bl hbc
              replace H4 := hide (H4.out.bl hbc)
              replace H5 := hide (H5.out.bl hbc)
              clear hHeld hbc
              go_simp
              refine hK.out _ _ ?_ (fun hHeld => ?_)
              · exact hH2.out
              clear hK K
              clear hH2
              refine wpAnyH_ready (rs := [7]) (by kernel_rfl) (by simp) ?_
              refine AllReadyH.cons (o := ?oi24) ?hi24 (fun K hK => ?_) AllReadyH.nil
              case hi24 => (simp only [List.getElem?_toArray, List.getElem?_cons_zero, List.getElem?_cons_succ]; rfl)
              rw [if_pos (by rfl)]
              (with_reducible refine s_up w.heap.size _ z hr ?_ ?_ ?_)
              · exact rfl
              · exact rfl
              intro V hnew ho
              have hH2 := hide (ho.bel _ _ (Nat.le_refl _) hHeld)
              replace H4 := hide (H4.out.only ho (by omega))
              replace H5 := hide (H5.out.only ho (by omega))
              replace hr := hnew
              clear hHeld hnew ho
              refine hK.out _ _ ?_ (fun hHeld => ?_)
              · exact hH2.out
              clear hK K
              clear hH2
              refine wpAnyH_done (by kernel_rfl) ?_ _
              have hb := hHeld
              clear hHeld
              have cc := (hb.cell (p := ⟨b, o + k * 2 + 1, none⟩) blt).trans ccw
              obtain ⟨NB, hNB⟩ : ∃ n, V.heap.size = n := ⟨_, rfl⟩
              have lNB : w.heap.size + 1 ≤ NB := by have := hr.lt; omega
              replace hNB := hide hNB
              go_wp2_with (first | ((with_reducible refine bs_1 NB c ?_ ?_ ?_); exact hNB.out; exact rfl; intro W hs1 hb' hz3; replace hr := hr.bl (hNB.out ▸ hb'); replace H4 := hide (H4.out.bl (hNB.out ▸ hb')); replace H5 := hide (H5.out.bl (hNB.out ▸ hb')); replace hb := hb.trans (hb'.mono (by omega))) | ((with_reducible refine op_appx (w.heap.size + 1) NB c H4.out ?_ ?_ ?_ ?_ ?_ ?_); (have := hs1.lt; omega); exact hlq; exact (hs1.cell 0).trans rfl; exact rfl; exact rfl; intro W v' hq1 hk1 hsz1 hbel1 hob1; have HX := hide (far_after H4.out H5.out (HF.out) hk1 hob1); replace hr := row_after H4.out hr (by omega) hk1; replace hb := hbel1 _ _ (by omega) hb; replace H5 := hide HX.out.1; replace HF := hide (HX.out.2); rw [hL.out] at hq1; obtain ⟨ad', cap', ev, hc1, hc2⟩ := hq1.form; subst ev; replace H4 := hide hq1; clear hq1 hk1 hsz1 hbel1 hob1 HX hs1) | ((with_reducible refine ld_up w.heap.size z hr ?_ ?_ ?_); exact rfl; exact rfl) | (go_at_call 14; (with_reducible refine (HC.out _).mono ?_); rintro e W ⟨rfl, hbc⟩; replace hr := hr.bl hbc; replace H4 := hide (H4.out.bl hbc); replace H5 := hide (H5.out.bl hbc); have fx := hr.cell; replace hb := below_bl rfl hb hbc))
              go_roundw
              case rel => exact ⟨k + 1, z, L, lo, ov, by omega, by omega, by go_num, rfl, HZ.out, hr, H4.out, H5.out, HF.out, hb⟩
              case measure => simp [intOf]; omega
          · as_aux_lemma =>
              have hO2 := ord_put_full HO.out hlq c
              have HP := hide (fun w => uput_any s ok c w)
              generalize putV s c = z at hO2 HP
              have HZ := hide hO2
              clear hO2
              have z1 : (z.rx.n != (li.length : Int)) = false := by rw [HZ.out.rn]; simp
              have z2 : (z.tx.n != (lo.length : Int)) = false := by rw [HZ.out.tn]; simp
              have z3 : (z.ov == true) = true := by rw [HZ.out.ov]; simp
              have z4 := HZ.out.ov
              have HC := hide (fun w => check_ok z HZ.out.ok HZ.out.may w)
              have q16 : decide ((li.length : Int) < 16) = false := by simp; omega
              have q16n : decide (li.length < 16) = false := by simp; omega
              go_wp2_with (first | fail)
              refine wp_region_held_drew (S := (fun V => Below w.heap.size w V)) (by kernel_rfl) ?_ (fun hHeld => ?_)
              · exact hb.drew
              replace hr := hr.dr
              replace H4 := hide H4.out.dr
              replace H5 := hide H5.out.dr
              generalize World.drew _ = V at hHeld hr H4 H5 ⊢
              clear hb
              refine wpAnyH_take (i := 1) (oi := ?oi25) (v := .slice (some ⟨b, o, none⟩) n c0) ?hi25 (by kernel_rfl) (by kernel_rfl) (by kernel_rfl) ?hQ25 ?hy25 (by assumption) ?rest25
              case hi25 => (simp only [List.getElem?_toArray, List.getElem?_cons_zero, List.getElem?_cons_succ]; rfl)
              case hQ25 => exact fun _ _ _ h => h
              case hy25 => exact Or.inl ⟨by rfl, by (intro w hSw; (try dsimp only at hSw); go_simp )⟩
              simp only [Act.put, List.setIfInBounds_toArray, List.set_cons_zero, List.set_cons_succ]
              refine wpAnyH_take (i := 2) (oi := ?oi26) (v := .int .i64 (k : Nat)) ?hi26 (by kernel_rfl) (by kernel_rfl) (by kernel_rfl) ?hQ26 ?hy26 (by assumption) ?rest26
              case hi26 => (simp only [List.getElem?_toArray, List.getElem?_cons_zero, List.getElem?_cons_succ]; rfl)
              case hQ26 => exact fun _ _ _ h => h
              case hy26 => exact Or.inl ⟨by rfl, by (intro w hSw; (try dsimp only at hSw); go_simp )⟩
              simp only [Act.put, List.setIfInBounds_toArray, List.set_cons_zero, List.set_cons_succ]
              refine wpAnyH_take (i := 3) (oi := ?oi27) (v := .pointer (some ⟨b, o + k * 2, none⟩)) ?hi27 (by kernel_rfl) (by kernel_rfl) (by kernel_rfl) ?hQ27 ?hy27 (by assumption) ?rest27
              case hi27 => (simp only [List.getElem?_toArray, List.getElem?_cons_zero, List.getElem?_cons_succ]; rfl)
              case hQ27 => exact fun _ _ _ h => h
              case hy27 => exact Or.inl ⟨by rfl, by (intro w hSw; (try dsimp only at hSw); go_simp )⟩
              simp only [Act.put, List.setIfInBounds_toArray, List.set_cons_zero, List.set_cons_succ]
              refine wpAnyH_take (i := 4) (oi := ?oi28) (v := .pointer (some ⟨b, o + k * 2 + 1, none⟩)) ?hi28 (by kernel_rfl) (by kernel_rfl) (by kernel_rfl) ?hQ28 ?hy28 (by assumption) ?rest28
              case hi28 => (simp only [List.getElem?_toArray, List.getElem?_cons_zero, List.getElem?_cons_succ]; rfl)
              case hQ28 => exact fun _ _ _ h => h
              case hy28 => exact Or.inl ⟨by rfl, by (intro w hSw; (try dsimp only at hSw); go_simp )⟩
              simp only [Act.put, List.setIfInBounds_toArray, List.set_cons_zero, List.set_cons_succ]
              refine wpAnyH_take (i := 5) (oi := ?oi29) (v := .int .u8 (c : Nat)) ?hi29 (by kernel_rfl) (by kernel_rfl) (by kernel_rfl) ?hQ29 ?hy29 (by assumption) ?rest29
              case hi29 => (simp only [List.getElem?_toArray, List.getElem?_cons_zero, List.getElem?_cons_succ]; rfl)
              case hQ29 => exact fun _ _ _ h => h
              case hy29 => exact y_cell b (o + k * 2 + 1) _ (fun V hV => (hV.cell (p := ⟨b, o + k * 2 + 1, none⟩) blt).trans ccw) _ Try.underlying5 rfl rfl
              simp only [Act.put, List.setIfInBounds_toArray, List.set_cons_zero, List.set_cons_succ]
              refine wpAnyH_ready (rs := [0]) (by kernel_rfl) (by simp) ?_
              refine AllReadyH.cons (o := ?oi30) ?hi30 (fun K hK => ?_) AllReadyH.nil
              case hi30 => (simp only [List.getElem?_toArray, List.getElem?_cons_zero]; rfl)
              rw [if_pos (by rfl)]
              (with_reducible refine s_ldu w.heap.size s hr ?_ ?_)
              · exact rfl
              have hH2 := hide hHeld
              clear hHeld
              refine hK.out _ _ ?_ (fun hHeld => ?_)
              · exact hH2.out
              clear hK K
              clear hH2
              refine wpAnyH_ready (rs := [6]) (by kernel_rfl) (by simp) ?_
              refine AllReadyH.cons (o := ?oi31) ?hi31 (fun K hK => ?_) AllReadyH.nil
              case hi31 => (simp only [List.getElem?_toArray, List.getElem?_cons_zero, List.getElem?_cons_succ]; rfl)
              go_simp
              (with_reducible refine (HP.out _).mono ?_)
              rintro e V ⟨rfl, hbc⟩
              have hH2 := hide (below_bl rfl hHeld hbc)
              replace hr := hr.bl hbc
              replace H4 := hide (H4.out.bl hbc)
              replace H5 := hide (H5.out.bl hbc)
              clear hHeld hbc
              go_simp
              refine hK.out _ _ ?_ (fun hHeld => ?_)
              · exact hH2.out
              clear hK K
              clear hH2
              refine wpAnyH_ready (rs := [7]) (by kernel_rfl) (by simp) ?_
              refine AllReadyH.cons (o := ?oi32) ?hi32 (fun K hK => ?_) AllReadyH.nil
              case hi32 => (simp only [List.getElem?_toArray, List.getElem?_cons_zero, List.getElem?_cons_succ]; rfl)
              rw [if_pos (by rfl)]
              (with_reducible refine s_up w.heap.size _ z hr ?_ ?_ ?_)
              · exact rfl
              · exact rfl
              intro V hnew ho
              have hH2 := hide (ho.bel _ _ (Nat.le_refl _) hHeld)
              replace H4 := hide (H4.out.only ho (by omega))
              replace H5 := hide (H5.out.only ho (by omega))
              replace hr := hnew
              clear hHeld hnew ho
              refine hK.out _ _ ?_ (fun hHeld => ?_)
              · exact hH2.out
              clear hK K
              clear hH2
              refine wpAnyH_done (by kernel_rfl) ?_ _
              have hb := hHeld
              clear hHeld
              have cc := (hb.cell (p := ⟨b, o + k * 2 + 1, none⟩) blt).trans ccw
              go_wp2_with (first | ((with_reducible refine ld_up w.heap.size z hr ?_ ?_ ?_); exact rfl; exact rfl) | (go_at_call 14; (with_reducible refine (HC.out _).mono ?_); rintro e W ⟨rfl, hbc⟩; replace hr := hr.bl hbc; replace H4 := hide (H4.out.bl hbc); replace H5 := hide (H5.out.bl hbc); have fx := hr.cell; replace hb := below_bl rfl hb hbc))
              go_roundw
              case rel => exact ⟨k + 1, z, li, lo, true, by omega, by omega, by go_num, rfl, HZ.out, hr, H4.out, H5.out, HF.out, hb⟩
              case measure => simp [intOf]; omega
        by_cases hm2 : m = 2
        · subst hm2
          by_cases hlq : lo.length < 16
          · as_aux_lemma =>
              have hO2 := ord_write_room HO.out hlq hc
              have HP := hide (fun w => write_any s ok 0 c hc w)
              rw [write0 HO.out, show errP 0 = .nilIface from rfl, show (((0 : Nat) : Int)) = 0 from rfl] at HP
              obtain ⟨L, hL⟩ : ∃ L, lo ++ [c] = L := ⟨_, rfl⟩
              rw [hL] at hO2
              replace hL := hide hL
              generalize dataW s c = z at hO2 HP
              have HZ := hide hO2
              clear hO2
              have z1 : (z.rx.n != (li.length : Int)) = false := by rw [HZ.out.rn]; simp
              have z2 : (z.tx.n != (L.length : Int)) = false := by rw [HZ.out.tn]; simp
              have z3 : (z.ov == ov) = true := by rw [HZ.out.ov]; simp
              have z4 := HZ.out.ov
              have HC := hide (fun w => check_ok z HZ.out.ok HZ.out.may w)
              have q16 : (lo.length : Int) < 16 := by omega
              go_wp2_with (first | fail)
              refine wp_region_held_drew (S := (fun V => RowAt V w.heap.size s.cells 29 ∧ Below w.heap.size w V)) (by kernel_rfl) ?_ (fun hHeld => ?_)
              · exact ⟨hr.dr, hb.drew⟩
              replace H4 := hide H4.out.dr
              replace H5 := hide H5.out.dr
              generalize World.drew _ = V at hHeld H4 H5 ⊢
              clear hb hr
              refine wpAnyH_take (i := 0) (oi := ?oi33) (v := .agg s.cells) ?hi33 (by kernel_rfl) (by kernel_rfl) (by kernel_rfl) ?hQ33 ?hy33 (by assumption) ?rest33
              case hi33 => (simp only [List.getElem?_toArray, List.getElem?_cons_zero]; rfl)
              case hQ33 => exact fun _ _ _ h => h
              case hy33 => exact y_up w.heap.size s (fun V hV => hV.1) rfl rfl
              simp only [Act.put, List.setIfInBounds_toArray, List.set_cons_zero, List.set_cons_succ]
              refine wpAnyH_take (i := 1) (oi := ?oi34) (v := .slice (some ⟨b, o, none⟩) n c0) ?hi34 (by kernel_rfl) (by kernel_rfl) (by kernel_rfl) ?hQ34 ?hy34 (by assumption) ?rest34
              case hi34 => (simp only [List.getElem?_toArray, List.getElem?_cons_zero, List.getElem?_cons_succ]; rfl)
              case hQ34 => exact fun _ _ _ h => h
              case hy34 => exact Or.inl ⟨by rfl, by (intro w hSw; (try dsimp only at hSw); go_simp )⟩
              simp only [Act.put, List.setIfInBounds_toArray, List.set_cons_zero, List.set_cons_succ]
              refine wpAnyH_take (i := 2) (oi := ?oi35) (v := .int .i64 (k : Nat)) ?hi35 (by kernel_rfl) (by kernel_rfl) (by kernel_rfl) ?hQ35 ?hy35 (by assumption) ?rest35
              case hi35 => (simp only [List.getElem?_toArray, List.getElem?_cons_zero, List.getElem?_cons_succ]; rfl)
              case hQ35 => exact fun _ _ _ h => h
              case hy35 => exact Or.inl ⟨by rfl, by (intro w hSw; (try dsimp only at hSw); go_simp )⟩
              simp only [Act.put, List.setIfInBounds_toArray, List.set_cons_zero, List.set_cons_succ]
              refine wpAnyH_take (i := 3) (oi := ?oi36) (v := .pointer (some ⟨b, o + k * 2, none⟩)) ?hi36 (by kernel_rfl) (by kernel_rfl) (by kernel_rfl) ?hQ36 ?hy36 (by assumption) ?rest36
              case hi36 => (simp only [List.getElem?_toArray, List.getElem?_cons_zero, List.getElem?_cons_succ]; rfl)
              case hQ36 => exact fun _ _ _ h => h
              case hy36 => exact Or.inl ⟨by rfl, by (intro w hSw; (try dsimp only at hSw); go_simp )⟩
              simp only [Act.put, List.setIfInBounds_toArray, List.set_cons_zero, List.set_cons_succ]
              refine wpAnyH_take (i := 4) (oi := ?oi37) (v := .pointer (some ⟨b, o + k * 2 + 1, none⟩)) ?hi37 (by kernel_rfl) (by kernel_rfl) (by kernel_rfl) ?hQ37 ?hy37 (by assumption) ?rest37
              case hi37 => (simp only [List.getElem?_toArray, List.getElem?_cons_zero, List.getElem?_cons_succ]; rfl)
              case hQ37 => exact fun _ _ _ h => h
              case hy37 => exact Or.inl ⟨by rfl, by (intro w hSw; (try dsimp only at hSw); go_simp )⟩
              simp only [Act.put, List.setIfInBounds_toArray, List.set_cons_zero, List.set_cons_succ]
              refine wpAnyH_take (i := 5) (oi := ?oi38) (v := .int .u8 (c : Nat)) ?hi38 (by kernel_rfl) (by kernel_rfl) (by kernel_rfl) ?hQ38 ?hy38 (by assumption) ?rest38
              case hi38 => (simp only [List.getElem?_toArray, List.getElem?_cons_zero, List.getElem?_cons_succ]; rfl)
              case hQ38 => exact fun _ _ _ h => h
              case hy38 => exact y_cell b (o + k * 2 + 1) _ (fun V hV => (hV.2.cell (p := ⟨b, o + k * 2 + 1, none⟩) blt).trans ccw) _ Try.underlying5 rfl rfl
              simp only [Act.put, List.setIfInBounds_toArray, List.set_cons_zero, List.set_cons_succ]
              refine wpAnyH_ready (rs := [6, 10]) (by kernel_rfl) (by simp) ?_
              refine AllReadyH.cons (o := ?oi39) ?hi39 (fun K hK => ?b39) (AllReadyH.cons (o := ?oi40) ?hi40 (fun K hK => ?b40) AllReadyH.nil)
              case hi39 => (simp only [List.getElem?_toArray, List.getElem?_cons_zero, List.getElem?_cons_succ]; rfl)
              case hi40 => (simp only [List.getElem?_toArray, List.getElem?_cons_zero, List.getElem?_cons_succ]; rfl)
              case b39 =>
                go_simp
                (with_reducible refine (HP.out _).mono ?_)
                rintro e V ⟨rfl, hbc⟩
                have hH2 := hide (And.intro (hHeld.1.bl hbc) (below_bl rfl hHeld.2 hbc))
                replace H4 := hide (H4.out.bl hbc)
                replace H5 := hide (H5.out.bl hbc)
                clear hHeld hbc
                go_simp
                refine hK.out _ _ ?_ (fun hHeld => ?_)
                · exact hH2.out
                clear hK K hH2
                refine wpAnyH_take (i := 7) (oi := ?oi41) (v := .tuple #[.agg z.cells, .nilIface]) ?hi41 (by kernel_rfl) (by kernel_rfl) (by kernel_rfl) ?hQ41 ?hy41 (by assumption) ?rest41
                case hi41 => (simp only [List.getElem?_toArray, List.getElem?_cons_zero, List.getElem?_cons_succ]; rfl)
                case hQ41 => exact fun _ _ _ h => h
                case hy41 => exact Or.inl ⟨by rfl, by (intro w hSw; (try dsimp only at hSw); go_simp )⟩
                simp only [Act.put, List.setIfInBounds_toArray, List.set_cons_zero, List.set_cons_succ]
                refine wpAnyH_take (i := 8) (oi := ?oi42) (v := .agg z.cells) ?hi42 (by kernel_rfl) (by kernel_rfl) (by kernel_rfl) ?hQ42 ?hy42 (by assumption) ?rest42
                case hi42 => (simp only [List.getElem?_toArray, List.getElem?_cons_zero, List.getElem?_cons_succ]; rfl)
                case hQ42 => exact fun _ _ _ h => h
                case hy42 => exact Or.inl ⟨by rfl, by (intro w hSw; (try dsimp only at hSw); go_simp )⟩
                simp only [Act.put, List.setIfInBounds_toArray, List.set_cons_zero, List.set_cons_succ]
                refine wpAnyH_take (i := 9) (oi := ?oi43) (v := .nilIface) ?hi43 (by kernel_rfl) (by kernel_rfl) (by kernel_rfl) ?hQ43 ?hy43 (by assumption) ?rest43
                case hi43 => (simp only [List.getElem?_toArray, List.getElem?_cons_zero, List.getElem?_cons_succ]; rfl)
                case hQ43 => exact fun _ _ _ h => h
                case hy43 => exact Or.inl ⟨by rfl, by (intro w hSw; (try dsimp only at hSw); go_simp )⟩
                simp only [Act.put, List.setIfInBounds_toArray, List.set_cons_zero, List.set_cons_succ]
                refine wpAnyH_ready (rs := [10]) (by kernel_rfl) (by simp) ?_
                refine AllReadyH.cons (o := ?oi44) ?hi44 (fun K hK => ?_) AllReadyH.nil
                case hi44 => (simp only [List.getElem?_toArray, List.getElem?_cons_zero, List.getElem?_cons_succ]; rfl)
                obtain ⟨NY, hNY⟩ : ∃ n, V.heap.size = n := ⟨_, rfl⟩
                have lNY : w.heap.size + 1 ≤ NY := by have := hHeld.1.lt; omega
                replace hNY := hide hNY
                have HN4 : Hid ((Value.slice ad4 li.length cap4).ownBlock ≠ some NY) := hide (fun e => by have := (H4.out.lt e).2; have := hNY.out; omega)
                have HN5 : Hid ((Value.slice ad5 lo.length cap5).ownBlock ≠ some NY) := hide (fun e => by have := (H5.out.lt e).2; have := hNY.out; omega)
                rw [if_pos (by rfl)]
                (with_reducible refine s_alloc NY ?_ _ zero_up ?_)
                · exact hNY.out
                intro V hy hb' hzY
                have hH2 := hide (And.intro (hHeld.1.bl (hNY.out ▸ hb')) (hHeld.2.trans (hb'.mono (by omega))))
                replace H4 := hide (H4.out.bl (hNY.out ▸ hb'))
                replace H5 := hide (H5.out.bl (hNY.out ▸ hb'))
                simp only [Act.put, List.setIfInBounds_toArray, List.set_cons_zero, List.set_cons_succ]
                clear hHeld hb'
                refine hK.out _ _ ?_ (fun hHeld => ?_)
                · exact hH2.out
                clear hK K
                clear hH2
                refine wpAnyH_ready (rs := [11]) (by kernel_rfl) (by simp) ?_
                refine AllReadyH.cons (o := ?oi45) ?hi45 (fun K hK => ?_) AllReadyH.nil
                case hi45 => (simp only [List.getElem?_toArray, List.getElem?_cons_zero, List.getElem?_cons_succ]; rfl)
                rw [if_pos (by rfl)]
                (with_reducible refine s_up NY _ z hy ?_ ?_ ?_)
                · exact rfl
                · exact rfl
                intro V hnew ho
                have hH2 := hide (And.intro (hHeld.1.only ho (by omega)) (ho.bel _ _ (by omega) hHeld.2))
                replace H4 := hide (H4.out.other ho (HN4.out))
                replace H5 := hide (H5.out.other ho (HN5.out))
                replace hy := hnew
                clear hHeld hnew ho
                refine hK.out _ _ ?_ (fun hHeld => ?_)
                · exact hH2.out
                clear hK K
                clear hH2
                refine wpAnyH_take (i := 12) (oi := ?oi46) (v := .nilIface) ?hi46 (by kernel_rfl) (by kernel_rfl) (by kernel_rfl) ?hQ46 ?hy46 (by assumption) ?rest46
                case hi46 => (simp only [List.getElem?_toArray, List.getElem?_cons_zero, List.getElem?_cons_succ]; rfl)
                case hQ46 => exact fun _ _ _ h => h
                case hy46 => exact Or.inl ⟨by rfl, by (intro w hSw; (try dsimp only at hSw); go_simp )⟩
                simp only [Act.put, List.setIfInBounds_toArray, List.set_cons_zero, List.set_cons_succ]
                refine wpAnyH_done (by kernel_rfl) ?_ _
                have hr := hHeld.1
                have hb := hHeld.2
                clear hHeld
                have cc := (hb.cell (p := ⟨b, o + k * 2 + 1, none⟩) blt).trans ccw
                obtain ⟨NB, hNB⟩ : ∃ n, V.heap.size = n := ⟨_, rfl⟩
                have lNB : w.heap.size + 1 ≤ NB := by have := hr.lt; omega
                replace hNB := hide hNB
                go_wp2_with (first | ((with_reducible refine ld_up NY z hy ?_ ?_ ?_); exact rfl; exact rfl) | ((with_reducible refine st_up w.heap.size _ z hr ?_ ?_ ?_); exact rfl; exact rfl; intro W hnew ho; replace H4 := hide (H4.out.only ho (by omega)); replace H5 := hide (H5.out.only ho (by omega)); replace hr := hnew; replace hNB := hide (ho.size.trans hNB.out); replace hb := ho.bel _ _ (Nat.le_refl _) hb; replace cc := (hb.cell (p := ⟨b, o + k * 2 + 1, none⟩) blt).trans ccw) | ((with_reducible refine bs_1 NB c ?_ ?_ ?_); exact hNB.out; exact rfl; intro W hs1 hb' hz3; replace hr := hr.bl (hNB.out ▸ hb'); replace H4 := hide (H4.out.bl (hNB.out ▸ hb')); replace H5 := hide (H5.out.bl (hNB.out ▸ hb')); replace hb := hb.trans (hb'.mono (by omega))) | ((with_reducible refine op_appx (w.heap.size + 1) NB c H5.out ?_ ?_ ?_ ?_ ?_ ?_); (have := hs1.lt; omega); exact hlq; exact (hs1.cell 0).trans rfl; exact rfl; exact rfl; intro W v' hq1 hk1 hsz1 hbel1 hob1; have HX := hide (far_after H5.out H4.out (HF.out.symm) hk1 hob1); replace hr := row_after H5.out hr (by omega) hk1; replace hb := hbel1 _ _ (by omega) hb; replace H4 := hide HX.out.1; replace HF := hide (HX.out.2.symm); rw [hL.out] at hq1; obtain ⟨ad', cap', ev, hc1, hc2⟩ := hq1.form; subst ev; replace H5 := hide hq1; clear hq1 hk1 hsz1 hbel1 hob1 HX hs1) | ((with_reducible refine ld_up w.heap.size z hr ?_ ?_ ?_); exact rfl; exact rfl) | (go_at_call 14; (with_reducible refine (HC.out _).mono ?_); rintro e W ⟨rfl, hbc⟩; replace hr := hr.bl hbc; replace H4 := hide (H4.out.bl hbc); replace H5 := hide (H5.out.bl hbc); have fx := hr.cell; replace hb := below_bl rfl hb hbc))
                go_roundw
                case rel => exact ⟨k + 1, z, li, L, ov, by omega, by omega, by go_num, rfl, HZ.out, hr, H4.out, H5.out, HF.out, hb⟩
                case measure => simp [intOf]; omega
              case b40 =>
                obtain ⟨NY, hNY⟩ : ∃ n, V.heap.size = n := ⟨_, rfl⟩
                have lNY : w.heap.size + 1 ≤ NY := by have := hHeld.1.lt; omega
                replace hNY := hide hNY
                have HN4 : Hid ((Value.slice ad4 li.length cap4).ownBlock ≠ some NY) := hide (fun e => by have := (H4.out.lt e).2; have := hNY.out; omega)
                have HN5 : Hid ((Value.slice ad5 lo.length cap5).ownBlock ≠ some NY) := hide (fun e => by have := (H5.out.lt e).2; have := hNY.out; omega)
                rw [if_pos (by rfl)]
                (with_reducible refine s_alloc NY ?_ _ zero_up ?_)
                · exact hNY.out
                intro V hy hb' hzY
                have hH2 := hide (And.intro (hHeld.1.bl (hNY.out ▸ hb')) (hHeld.2.trans (hb'.mono (by omega))))
                replace H4 := hide (H4.out.bl (hNY.out ▸ hb'))
                replace H5 := hide (H5.out.bl (hNY.out ▸ hb'))
                simp only [Act.put, List.setIfInBounds_toArray, List.set_cons_zero, List.set_cons_succ]
                clear hHeld hb'
                refine hK.out _ _ ?_ (fun hHeld => ?_)
                · exact hH2.out
                clear hK K hH2
                refine wpAnyH_ready (rs := [6]) (by kernel_rfl) (by simp) ?_
                refine AllReadyH.cons (o := ?oi47) ?hi47 (fun K hK => ?_) AllReadyH.nil
                case hi47 => (simp only [List.getElem?_toArray, List.getElem?_cons_zero, List.getElem?_cons_succ]; rfl)
                go_simp
                (with_reducible refine (HP.out _).mono ?_)
                rintro e V ⟨rfl, hbc⟩
                have hH2 := hide (And.intro (hHeld.1.bl hbc) (below_bl rfl hHeld.2 hbc))
                replace H4 := hide (H4.out.bl hbc)
                replace H5 := hide (H5.out.bl hbc)
                replace hy := hy.bl hbc
                clear hHeld hbc
                go_simp
                refine hK.out _ _ ?_ (fun hHeld => ?_)
                · exact hH2.out
                clear hK K
                clear hH2
                refine wpAnyH_take (i := 7) (oi := ?oi48) (v := .tuple #[.agg z.cells, .nilIface]) ?hi48 (by kernel_rfl) (by kernel_rfl) (by kernel_rfl) ?hQ48 ?hy48 (by assumption) ?rest48
                case hi48 => (simp only [List.getElem?_toArray, List.getElem?_cons_zero, List.getElem?_cons_succ]; rfl)
                case hQ48 => exact fun _ _ _ h => h
                case hy48 => exact Or.inl ⟨by rfl, by (intro w hSw; (try dsimp only at hSw); go_simp )⟩
                simp only [Act.put, List.setIfInBounds_toArray, List.set_cons_zero, List.set_cons_succ]
                refine wpAnyH_take (i := 8) (oi := ?oi49) (v := .agg z.cells) ?hi49 (by kernel_rfl) (by kernel_rfl) (by kernel_rfl) ?hQ49 ?hy49 (by assumption) ?rest49
                case hi49 => (simp only [List.getElem?_toArray, List.getElem?_cons_zero, List.getElem?_cons_succ]; rfl)
                case hQ49 => exact fun _ _ _ h => h
                case hy49 => exact Or.inl ⟨by rfl, by (intro w hSw; (try dsimp only at hSw); go_simp )⟩
                simp only [Act.put, List.setIfInBounds_toArray, List.set_cons_zero, List.set_cons_succ]
                refine wpAnyH_take (i := 9) (oi := ?oi50) (v := .nilIface) ?hi50 (by kernel_rfl) (by kernel_rfl) (by kernel_rfl) ?hQ50 ?hy50 (by assumption) ?rest50
                case hi50 => (simp only [List.getElem?_toArray, List.getElem?_cons_zero, List.getElem?_cons_succ]; rfl)
                case hQ50 => exact fun _ _ _ h => h
                case hy50 => exact Or.inl ⟨by rfl, by (intro w hSw; (try dsimp only at hSw); go_simp )⟩
                simp only [Act.put, List.setIfInBounds_toArray, List.set_cons_zero, List.set_cons_succ]
                refine wpAnyH_ready (rs := [11]) (by kernel_rfl) (by simp) ?_
                refine AllReadyH.cons (o := ?oi51) ?hi51 (fun K hK => ?_) AllReadyH.nil
                case hi51 => (simp only [List.getElem?_toArray, List.getElem?_cons_zero, List.getElem?_cons_succ]; rfl)
                rw [if_pos (by rfl)]
                (with_reducible refine s_up NY _ z hy ?_ ?_ ?_)
                · exact rfl
                · exact rfl
                intro V hnew ho
                have hH2 := hide (And.intro (hHeld.1.only ho (by omega)) (ho.bel _ _ (by omega) hHeld.2))
                replace H4 := hide (H4.out.other ho (HN4.out))
                replace H5 := hide (H5.out.other ho (HN5.out))
                replace hy := hnew
                clear hHeld hnew ho
                refine hK.out _ _ ?_ (fun hHeld => ?_)
                · exact hH2.out
                clear hK K
                clear hH2
                refine wpAnyH_take (i := 12) (oi := ?oi52) (v := .nilIface) ?hi52 (by kernel_rfl) (by kernel_rfl) (by kernel_rfl) ?hQ52 ?hy52 (by assumption) ?rest52
                case hi52 => (simp only [List.getElem?_toArray, List.getElem?_cons_zero, List.getElem?_cons_succ]; rfl)
                case hQ52 => exact fun _ _ _ h => h
                case hy52 => exact Or.inl ⟨by rfl, by (intro w hSw; (try dsimp only at hSw); go_simp )⟩
                simp only [Act.put, List.setIfInBounds_toArray, List.set_cons_zero, List.set_cons_succ]
                refine wpAnyH_done (by kernel_rfl) ?_ _
                have hr := hHeld.1
                have hb := hHeld.2
                clear hHeld
                have cc := (hb.cell (p := ⟨b, o + k * 2 + 1, none⟩) blt).trans ccw
                obtain ⟨NB, hNB⟩ : ∃ n, V.heap.size = n := ⟨_, rfl⟩
                have lNB : w.heap.size + 1 ≤ NB := by have := hr.lt; omega
                replace hNB := hide hNB
                go_wp2_with (first | ((with_reducible refine ld_up NY z hy ?_ ?_ ?_); exact rfl; exact rfl) | ((with_reducible refine st_up w.heap.size _ z hr ?_ ?_ ?_); exact rfl; exact rfl; intro W hnew ho; replace H4 := hide (H4.out.only ho (by omega)); replace H5 := hide (H5.out.only ho (by omega)); replace hr := hnew; replace hNB := hide (ho.size.trans hNB.out); replace hb := ho.bel _ _ (Nat.le_refl _) hb; replace cc := (hb.cell (p := ⟨b, o + k * 2 + 1, none⟩) blt).trans ccw) | ((with_reducible refine bs_1 NB c ?_ ?_ ?_); exact hNB.out; exact rfl; intro W hs1 hb' hz3; replace hr := hr.bl (hNB.out ▸ hb'); replace H4 := hide (H4.out.bl (hNB.out ▸ hb')); replace H5 := hide (H5.out.bl (hNB.out ▸ hb')); replace hb := hb.trans (hb'.mono (by omega))) | ((with_reducible refine op_appx (w.heap.size + 1) NB c H5.out ?_ ?_ ?_ ?_ ?_ ?_); (have := hs1.lt; omega); exact hlq; exact (hs1.cell 0).trans rfl; exact rfl; exact rfl; intro W v' hq1 hk1 hsz1 hbel1 hob1; have HX := hide (far_after H5.out H4.out (HF.out.symm) hk1 hob1); replace hr := row_after H5.out hr (by omega) hk1; replace hb := hbel1 _ _ (by omega) hb; replace H4 := hide HX.out.1; replace HF := hide (HX.out.2.symm); rw [hL.out] at hq1; obtain ⟨ad', cap', ev, hc1, hc2⟩ := hq1.form; subst ev; replace H5 := hide hq1; clear hq1 hk1 hsz1 hbel1 hob1 HX hs1) | ((with_reducible refine ld_up w.heap.size z hr ?_ ?_ ?_); exact rfl; exact rfl) | (go_at_call 14; (with_reducible refine (HC.out _).mono ?_); rintro e W ⟨rfl, hbc⟩; replace hr := hr.bl hbc; replace H4 := hide (H4.out.bl hbc); replace H5 := hide (H5.out.bl hbc); have fx := hr.cell; replace hb := below_bl rfl hb hbc))
                go_roundw
                case rel => exact ⟨k + 1, z, li, L, ov, by omega, by omega, by go_num, rfl, HZ.out, hr, H4.out, H5.out, HF.out, hb⟩
                case measure => simp [intOf]; omega
          · as_aux_lemma =>
              have hO2 := ord_write_full HO.out hlq c
              have HP := hide (fun w => write_any s ok 0 c hc w)
              rw [write0 HO.out, show errP 0 = .nilIface from rfl, show (((0 : Nat) : Int)) = 0 from rfl] at HP
              generalize dataW s c = z at hO2 HP
              have HZ := hide hO2
              clear hO2
              have z1 : (z.rx.n != (li.length : Int)) = false := by rw [HZ.out.rn]; simp
              have z2 : (z.tx.n != (lo.length : Int)) = false := by rw [HZ.out.tn]; simp
              have z3 : (z.ov == ov) = true := by rw [HZ.out.ov]; simp
              have z4 := HZ.out.ov
              have HC := hide (fun w => check_ok z HZ.out.ok HZ.out.may w)
              have q16 : decide ((lo.length : Int) < 16) = false := by simp; omega
              have q16n : decide (lo.length < 16) = false := by simp; omega
              go_wp2_with (first | fail)
              refine wp_region_held_drew (S := (fun V => RowAt V w.heap.size s.cells 29 ∧ Below w.heap.size w V)) (by kernel_rfl) ?_ (fun hHeld => ?_)
              · exact ⟨hr.dr, hb.drew⟩
              replace H4 := hide H4.out.dr
              replace H5 := hide H5.out.dr
              generalize World.drew _ = V at hHeld H4 H5 ⊢
              clear hb hr
              refine wpAnyH_take (i := 0) (oi := ?oi53) (v := .agg s.cells) ?hi53 (by kernel_rfl) (by kernel_rfl) (by kernel_rfl) ?hQ53 ?hy53 (by assumption) ?rest53
              case hi53 => (simp only [List.getElem?_toArray, List.getElem?_cons_zero]; rfl)
              case hQ53 => exact fun _ _ _ h => h
              case hy53 => exact y_up w.heap.size s (fun V hV => hV.1) rfl rfl
              simp only [Act.put, List.setIfInBounds_toArray, List.set_cons_zero, List.set_cons_succ]
              refine wpAnyH_take (i := 1) (oi := ?oi54) (v := .slice (some ⟨b, o, none⟩) n c0) ?hi54 (by kernel_rfl) (by kernel_rfl) (by kernel_rfl) ?hQ54 ?hy54 (by assumption) ?rest54
              case hi54 => (simp only [List.getElem?_toArray, List.getElem?_cons_zero, List.getElem?_cons_succ]; rfl)
              case hQ54 => exact fun _ _ _ h => h
              case hy54 => exact Or.inl ⟨by rfl, by (intro w hSw; (try dsimp only at hSw); go_simp )⟩
              simp only [Act.put, List.setIfInBounds_toArray, List.set_cons_zero, List.set_cons_succ]
              refine wpAnyH_take (i := 2) (oi := ?oi55) (v := .int .i64 (k : Nat)) ?hi55 (by kernel_rfl) (by kernel_rfl) (by kernel_rfl) ?hQ55 ?hy55 (by assumption) ?rest55
              case hi55 => (simp only [List.getElem?_toArray, List.getElem?_cons_zero, List.getElem?_cons_succ]; rfl)
              case hQ55 => exact fun _ _ _ h => h
              case hy55 => exact Or.inl ⟨by rfl, by (intro w hSw; (try dsimp only at hSw); go_simp )⟩
              simp only [Act.put, List.setIfInBounds_toArray, List.set_cons_zero, List.set_cons_succ]
              refine wpAnyH_take (i := 3) (oi := ?oi56) (v := .pointer (some ⟨b, o + k * 2, none⟩)) ?hi56 (by kernel_rfl) (by kernel_rfl) (by kernel_rfl) ?hQ56 ?hy56 (by assumption) ?rest56
              case hi56 => (simp only [List.getElem?_toArray, List.getElem?_cons_zero, List.getElem?_cons_succ]; rfl)
              case hQ56 => exact fun _ _ _ h => h
              case hy56 => exact Or.inl ⟨by rfl, by (intro w hSw; (try dsimp only at hSw); go_simp )⟩
              simp only [Act.put, List.setIfInBounds_toArray, List.set_cons_zero, List.set_cons_succ]
              refine wpAnyH_take (i := 4) (oi := ?oi57) (v := .pointer (some ⟨b, o + k * 2 + 1, none⟩)) ?hi57 (by kernel_rfl) (by kernel_rfl) (by kernel_rfl) ?hQ57 ?hy57 (by assumption) ?rest57
              case hi57 => (simp only [List.getElem?_toArray, List.getElem?_cons_zero, List.getElem?_cons_succ]; rfl)
              case hQ57 => exact fun _ _ _ h => h
              case hy57 => exact Or.inl ⟨by rfl, by (intro w hSw; (try dsimp only at hSw); go_simp )⟩
              simp only [Act.put, List.setIfInBounds_toArray, List.set_cons_zero, List.set_cons_succ]
              refine wpAnyH_take (i := 5) (oi := ?oi58) (v := .int .u8 (c : Nat)) ?hi58 (by kernel_rfl) (by kernel_rfl) (by kernel_rfl) ?hQ58 ?hy58 (by assumption) ?rest58
              case hi58 => (simp only [List.getElem?_toArray, List.getElem?_cons_zero, List.getElem?_cons_succ]; rfl)
              case hQ58 => exact fun _ _ _ h => h
              case hy58 => exact y_cell b (o + k * 2 + 1) _ (fun V hV => (hV.2.cell (p := ⟨b, o + k * 2 + 1, none⟩) blt).trans ccw) _ Try.underlying5 rfl rfl
              simp only [Act.put, List.setIfInBounds_toArray, List.set_cons_zero, List.set_cons_succ]
              refine wpAnyH_ready (rs := [6, 10]) (by kernel_rfl) (by simp) ?_
              refine AllReadyH.cons (o := ?oi59) ?hi59 (fun K hK => ?b59) (AllReadyH.cons (o := ?oi60) ?hi60 (fun K hK => ?b60) AllReadyH.nil)
              case hi59 => (simp only [List.getElem?_toArray, List.getElem?_cons_zero, List.getElem?_cons_succ]; rfl)
              case hi60 => (simp only [List.getElem?_toArray, List.getElem?_cons_zero, List.getElem?_cons_succ]; rfl)
              case b59 =>
                go_simp
                (with_reducible refine (HP.out _).mono ?_)
                rintro e V ⟨rfl, hbc⟩
                have hH2 := hide (And.intro (hHeld.1.bl hbc) (below_bl rfl hHeld.2 hbc))
                replace H4 := hide (H4.out.bl hbc)
                replace H5 := hide (H5.out.bl hbc)
                clear hHeld hbc
                go_simp
                refine hK.out _ _ ?_ (fun hHeld => ?_)
                · exact hH2.out
                clear hK K hH2
                refine wpAnyH_take (i := 7) (oi := ?oi61) (v := .tuple #[.agg z.cells, .nilIface]) ?hi61 (by kernel_rfl) (by kernel_rfl) (by kernel_rfl) ?hQ61 ?hy61 (by assumption) ?rest61
                case hi61 => (simp only [List.getElem?_toArray, List.getElem?_cons_zero, List.getElem?_cons_succ]; rfl)
                case hQ61 => exact fun _ _ _ h => h
                case hy61 => exact Or.inl ⟨by rfl, by (intro w hSw; (try dsimp only at hSw); go_simp )⟩
                simp only [Act.put, List.setIfInBounds_toArray, List.set_cons_zero, List.set_cons_succ]
                refine wpAnyH_take (i := 8) (oi := ?oi62) (v := .agg z.cells) ?hi62 (by kernel_rfl) (by kernel_rfl) (by kernel_rfl) ?hQ62 ?hy62 (by assumption) ?rest62
                case hi62 => (simp only [List.getElem?_toArray, List.getElem?_cons_zero, List.getElem?_cons_succ]; rfl)
                case hQ62 => exact fun _ _ _ h => h
                case hy62 => exact Or.inl ⟨by rfl, by (intro w hSw; (try dsimp only at hSw); go_simp )⟩
                simp only [Act.put, List.setIfInBounds_toArray, List.set_cons_zero, List.set_cons_succ]
                refine wpAnyH_take (i := 9) (oi := ?oi63) (v := .nilIface) ?hi63 (by kernel_rfl) (by kernel_rfl) (by kernel_rfl) ?hQ63 ?hy63 (by assumption) ?rest63
                case hi63 => (simp only [List.getElem?_toArray, List.getElem?_cons_zero, List.getElem?_cons_succ]; rfl)
                case hQ63 => exact fun _ _ _ h => h
                case hy63 => exact Or.inl ⟨by rfl, by (intro w hSw; (try dsimp only at hSw); go_simp )⟩
                simp only [Act.put, List.setIfInBounds_toArray, List.set_cons_zero, List.set_cons_succ]
                refine wpAnyH_ready (rs := [10]) (by kernel_rfl) (by simp) ?_
                refine AllReadyH.cons (o := ?oi64) ?hi64 (fun K hK => ?_) AllReadyH.nil
                case hi64 => (simp only [List.getElem?_toArray, List.getElem?_cons_zero, List.getElem?_cons_succ]; rfl)
                obtain ⟨NY, hNY⟩ : ∃ n, V.heap.size = n := ⟨_, rfl⟩
                have lNY : w.heap.size + 1 ≤ NY := by have := hHeld.1.lt; omega
                replace hNY := hide hNY
                have HN4 : Hid ((Value.slice ad4 li.length cap4).ownBlock ≠ some NY) := hide (fun e => by have := (H4.out.lt e).2; have := hNY.out; omega)
                have HN5 : Hid ((Value.slice ad5 lo.length cap5).ownBlock ≠ some NY) := hide (fun e => by have := (H5.out.lt e).2; have := hNY.out; omega)
                rw [if_pos (by rfl)]
                (with_reducible refine s_alloc NY ?_ _ zero_up ?_)
                · exact hNY.out
                intro V hy hb' hzY
                have hH2 := hide (And.intro (hHeld.1.bl (hNY.out ▸ hb')) (hHeld.2.trans (hb'.mono (by omega))))
                replace H4 := hide (H4.out.bl (hNY.out ▸ hb'))
                replace H5 := hide (H5.out.bl (hNY.out ▸ hb'))
                simp only [Act.put, List.setIfInBounds_toArray, List.set_cons_zero, List.set_cons_succ]
                clear hHeld hb'
                refine hK.out _ _ ?_ (fun hHeld => ?_)
                · exact hH2.out
                clear hK K
                clear hH2
                refine wpAnyH_ready (rs := [11]) (by kernel_rfl) (by simp) ?_
                refine AllReadyH.cons (o := ?oi65) ?hi65 (fun K hK => ?_) AllReadyH.nil
                case hi65 => (simp only [List.getElem?_toArray, List.getElem?_cons_zero, List.getElem?_cons_succ]; rfl)
                rw [if_pos (by rfl)]
                (with_reducible refine s_up NY _ z hy ?_ ?_ ?_)
                · exact rfl
                · exact rfl
                intro V hnew ho
                have hH2 := hide (And.intro (hHeld.1.only ho (by omega)) (ho.bel _ _ (by omega) hHeld.2))
                replace H4 := hide (H4.out.other ho (HN4.out))
                replace H5 := hide (H5.out.other ho (HN5.out))
                replace hy := hnew
                clear hHeld hnew ho
                refine hK.out _ _ ?_ (fun hHeld => ?_)
                · exact hH2.out
                clear hK K
                clear hH2
                refine wpAnyH_take (i := 12) (oi := ?oi66) (v := .nilIface) ?hi66 (by kernel_rfl) (by kernel_rfl) (by kernel_rfl) ?hQ66 ?hy66 (by assumption) ?rest66
                case hi66 => (simp only [List.getElem?_toArray, List.getElem?_cons_zero, List.getElem?_cons_succ]; rfl)
                case hQ66 => exact fun _ _ _ h => h
                case hy66 => exact Or.inl ⟨by rfl, by (intro w hSw; (try dsimp only at hSw); go_simp )⟩
                simp only [Act.put, List.setIfInBounds_toArray, List.set_cons_zero, List.set_cons_succ]
                refine wpAnyH_done (by kernel_rfl) ?_ _
                have hr := hHeld.1
                have hb := hHeld.2
                clear hHeld
                have cc := (hb.cell (p := ⟨b, o + k * 2 + 1, none⟩) blt).trans ccw
                obtain ⟨NB, hNB⟩ : ∃ n, V.heap.size = n := ⟨_, rfl⟩
                have lNB : w.heap.size + 1 ≤ NB := by have := hr.lt; omega
                replace hNB := hide hNB
                go_wp2_with (first | ((with_reducible refine ld_up NY z hy ?_ ?_ ?_); exact rfl; exact rfl) | ((with_reducible refine st_up w.heap.size _ z hr ?_ ?_ ?_); exact rfl; exact rfl; intro W hnew ho; replace H4 := hide (H4.out.only ho (by omega)); replace H5 := hide (H5.out.only ho (by omega)); replace hr := hnew; replace hNB := hide (ho.size.trans hNB.out); replace hb := ho.bel _ _ (Nat.le_refl _) hb; replace cc := (hb.cell (p := ⟨b, o + k * 2 + 1, none⟩) blt).trans ccw) | ((with_reducible refine ld_up w.heap.size z hr ?_ ?_ ?_); exact rfl; exact rfl) | (go_at_call 14; (with_reducible refine (HC.out _).mono ?_); rintro e W ⟨rfl, hbc⟩; replace hr := hr.bl hbc; replace H4 := hide (H4.out.bl hbc); replace H5 := hide (H5.out.bl hbc); have fx := hr.cell; replace hb := below_bl rfl hb hbc))
                go_roundw
                case rel => exact ⟨k + 1, z, li, lo, ov, by omega, by omega, by go_num, rfl, HZ.out, hr, H4.out, H5.out, HF.out, hb⟩
                case measure => simp [intOf]; omega
              case b60 =>
                obtain ⟨NY, hNY⟩ : ∃ n, V.heap.size = n := ⟨_, rfl⟩
                have lNY : w.heap.size + 1 ≤ NY := by have := hHeld.1.lt; omega
                replace hNY := hide hNY
                have HN4 : Hid ((Value.slice ad4 li.length cap4).ownBlock ≠ some NY) := hide (fun e => by have := (H4.out.lt e).2; have := hNY.out; omega)
                have HN5 : Hid ((Value.slice ad5 lo.length cap5).ownBlock ≠ some NY) := hide (fun e => by have := (H5.out.lt e).2; have := hNY.out; omega)
                rw [if_pos (by rfl)]
                (with_reducible refine s_alloc NY ?_ _ zero_up ?_)
                · exact hNY.out
                intro V hy hb' hzY
                have hH2 := hide (And.intro (hHeld.1.bl (hNY.out ▸ hb')) (hHeld.2.trans (hb'.mono (by omega))))
                replace H4 := hide (H4.out.bl (hNY.out ▸ hb'))
                replace H5 := hide (H5.out.bl (hNY.out ▸ hb'))
                simp only [Act.put, List.setIfInBounds_toArray, List.set_cons_zero, List.set_cons_succ]
                clear hHeld hb'
                refine hK.out _ _ ?_ (fun hHeld => ?_)
                · exact hH2.out
                clear hK K hH2
                refine wpAnyH_ready (rs := [6]) (by kernel_rfl) (by simp) ?_
                refine AllReadyH.cons (o := ?oi67) ?hi67 (fun K hK => ?_) AllReadyH.nil
                case hi67 => (simp only [List.getElem?_toArray, List.getElem?_cons_zero, List.getElem?_cons_succ]; rfl)
                go_simp
                (with_reducible refine (HP.out _).mono ?_)
                rintro e V ⟨rfl, hbc⟩
                have hH2 := hide (And.intro (hHeld.1.bl hbc) (below_bl rfl hHeld.2 hbc))
                replace H4 := hide (H4.out.bl hbc)
                replace H5 := hide (H5.out.bl hbc)
                replace hy := hy.bl hbc
                clear hHeld hbc
                go_simp
                refine hK.out _ _ ?_ (fun hHeld => ?_)
                · exact hH2.out
                clear hK K
                clear hH2
                refine wpAnyH_take (i := 7) (oi := ?oi68) (v := .tuple #[.agg z.cells, .nilIface]) ?hi68 (by kernel_rfl) (by kernel_rfl) (by kernel_rfl) ?hQ68 ?hy68 (by assumption) ?rest68
                case hi68 => (simp only [List.getElem?_toArray, List.getElem?_cons_zero, List.getElem?_cons_succ]; rfl)
                case hQ68 => exact fun _ _ _ h => h
                case hy68 => exact Or.inl ⟨by rfl, by (intro w hSw; (try dsimp only at hSw); go_simp )⟩
                simp only [Act.put, List.setIfInBounds_toArray, List.set_cons_zero, List.set_cons_succ]
                refine wpAnyH_take (i := 8) (oi := ?oi69) (v := .agg z.cells) ?hi69 (by kernel_rfl) (by kernel_rfl) (by kernel_rfl) ?hQ69 ?hy69 (by assumption) ?rest69
                case hi69 => (simp only [List.getElem?_toArray, List.getElem?_cons_zero, List.getElem?_cons_succ]; rfl)
                case hQ69 => exact fun _ _ _ h => h
                case hy69 => exact Or.inl ⟨by rfl, by (intro w hSw; (try dsimp only at hSw); go_simp )⟩
                simp only [Act.put, List.setIfInBounds_toArray, List.set_cons_zero, List.set_cons_succ]
                refine wpAnyH_take (i := 9) (oi := ?oi70) (v := .nilIface) ?hi70 (by kernel_rfl) (by kernel_rfl) (by kernel_rfl) ?hQ70 ?hy70 (by assumption) ?rest70
                case hi70 => (simp only [List.getElem?_toArray, List.getElem?_cons_zero, List.getElem?_cons_succ]; rfl)
                case hQ70 => exact fun _ _ _ h => h
                case hy70 => exact Or.inl ⟨by rfl, by (intro w hSw; (try dsimp only at hSw); go_simp )⟩
                simp only [Act.put, List.setIfInBounds_toArray, List.set_cons_zero, List.set_cons_succ]
                refine wpAnyH_ready (rs := [11]) (by kernel_rfl) (by simp) ?_
                refine AllReadyH.cons (o := ?oi71) ?hi71 (fun K hK => ?_) AllReadyH.nil
                case hi71 => (simp only [List.getElem?_toArray, List.getElem?_cons_zero, List.getElem?_cons_succ]; rfl)
                rw [if_pos (by rfl)]
                (with_reducible refine s_up NY _ z hy ?_ ?_ ?_)
                · exact rfl
                · exact rfl
                intro V hnew ho
                have hH2 := hide (And.intro (hHeld.1.only ho (by omega)) (ho.bel _ _ (by omega) hHeld.2))
                replace H4 := hide (H4.out.other ho (HN4.out))
                replace H5 := hide (H5.out.other ho (HN5.out))
                replace hy := hnew
                clear hHeld hnew ho
                refine hK.out _ _ ?_ (fun hHeld => ?_)
                · exact hH2.out
                clear hK K
                clear hH2
                refine wpAnyH_take (i := 12) (oi := ?oi72) (v := .nilIface) ?hi72 (by kernel_rfl) (by kernel_rfl) (by kernel_rfl) ?hQ72 ?hy72 (by assumption) ?rest72
                case hi72 => (simp only [List.getElem?_toArray, List.getElem?_cons_zero, List.getElem?_cons_succ]; rfl)
                case hQ72 => exact fun _ _ _ h => h
                case hy72 => exact Or.inl ⟨by rfl, by (intro w hSw; (try dsimp only at hSw); go_simp )⟩
                simp only [Act.put, List.setIfInBounds_toArray, List.set_cons_zero, List.set_cons_succ]
                refine wpAnyH_done (by kernel_rfl) ?_ _
                have hr := hHeld.1
                have hb := hHeld.2
                clear hHeld
                have cc := (hb.cell (p := ⟨b, o + k * 2 + 1, none⟩) blt).trans ccw
                obtain ⟨NB, hNB⟩ : ∃ n, V.heap.size = n := ⟨_, rfl⟩
                have lNB : w.heap.size + 1 ≤ NB := by have := hr.lt; omega
                replace hNB := hide hNB
                go_wp2_with (first | ((with_reducible refine ld_up NY z hy ?_ ?_ ?_); exact rfl; exact rfl) | ((with_reducible refine st_up w.heap.size _ z hr ?_ ?_ ?_); exact rfl; exact rfl; intro W hnew ho; replace H4 := hide (H4.out.only ho (by omega)); replace H5 := hide (H5.out.only ho (by omega)); replace hr := hnew; replace hNB := hide (ho.size.trans hNB.out); replace hb := ho.bel _ _ (Nat.le_refl _) hb; replace cc := (hb.cell (p := ⟨b, o + k * 2 + 1, none⟩) blt).trans ccw) | ((with_reducible refine ld_up w.heap.size z hr ?_ ?_ ?_); exact rfl; exact rfl) | (go_at_call 14; (with_reducible refine (HC.out _).mono ?_); rintro e W ⟨rfl, hbc⟩; replace hr := hr.bl hbc; replace H4 := hide (H4.out.bl hbc); replace H5 := hide (H5.out.bl hbc); have fx := hr.cell; replace hb := below_bl rfl hb hbc))
                go_roundw
                case rel => exact ⟨k + 1, z, li, lo, ov, by omega, by omega, by go_num, rfl, HZ.out, hr, H4.out, H5.out, HF.out, hb⟩
                case measure => simp [intOf]; omega
        by_cases hm3 : m = 3
        · subst hm3
          by_cases hlq : lo.length < 16
          · as_aux_lemma =>
              have hO2 := ord_write_room HO.out hlq hc
              have HP := hide (fun w => write_any s ok 0 c hc w)
              rw [write0 HO.out, show errP 0 = .nilIface from rfl, show (((0 : Nat) : Int)) = 0 from rfl] at HP
              obtain ⟨L, hL⟩ : ∃ L, lo ++ [c] = L := ⟨_, rfl⟩
              rw [hL] at hO2
              replace hL := hide hL
              generalize dataW s c = z at hO2 HP
              have HZ := hide hO2
              clear hO2
              have z1 : (z.rx.n != (li.length : Int)) = false := by rw [HZ.out.rn]; simp
              have z2 : (z.tx.n != (L.length : Int)) = false := by rw [HZ.out.tn]; simp
              have z3 : (z.ov == ov) = true := by rw [HZ.out.ov]; simp
              have z4 := HZ.out.ov
              have HC := hide (fun w => check_ok z HZ.out.ok HZ.out.may w)
              have q16 : (lo.length : Int) < 16 := by omega
              go_wp2_with (first | fail)
              refine wp_region_held_drew (S := (fun V => RowAt V w.heap.size s.cells 29 ∧ Below w.heap.size w V)) (by kernel_rfl) ?_ (fun hHeld => ?_)
              · exact ⟨hr.dr, hb.drew⟩
              replace H4 := hide H4.out.dr
              replace H5 := hide H5.out.dr
              generalize World.drew _ = V at hHeld H4 H5 ⊢
              clear hb hr
              refine wpAnyH_take (i := 0) (oi := ?oi73) (v := .agg s.cells) ?hi73 (by kernel_rfl) (by kernel_rfl) (by kernel_rfl) ?hQ73 ?hy73 (by assumption) ?rest73
              case hi73 => (simp only [List.getElem?_toArray, List.getElem?_cons_zero]; rfl)
              case hQ73 => exact fun _ _ _ h => h
              case hy73 => exact y_up w.heap.size s (fun V hV => hV.1) rfl rfl
              simp only [Act.put, List.setIfInBounds_toArray, List.set_cons_zero, List.set_cons_succ]
              refine wpAnyH_take (i := 1) (oi := ?oi74) (v := .slice (some ⟨b, o, none⟩) n c0) ?hi74 (by kernel_rfl) (by kernel_rfl) (by kernel_rfl) ?hQ74 ?hy74 (by assumption) ?rest74
              case hi74 => (simp only [List.getElem?_toArray, List.getElem?_cons_zero, List.getElem?_cons_succ]; rfl)
              case hQ74 => exact fun _ _ _ h => h
              case hy74 => exact Or.inl ⟨by rfl, by (intro w hSw; (try dsimp only at hSw); go_simp )⟩
              simp only [Act.put, List.setIfInBounds_toArray, List.set_cons_zero, List.set_cons_succ]
              refine wpAnyH_take (i := 2) (oi := ?oi75) (v := .int .i64 (k : Nat)) ?hi75 (by kernel_rfl) (by kernel_rfl) (by kernel_rfl) ?hQ75 ?hy75 (by assumption) ?rest75
              case hi75 => (simp only [List.getElem?_toArray, List.getElem?_cons_zero, List.getElem?_cons_succ]; rfl)
              case hQ75 => exact fun _ _ _ h => h
              case hy75 => exact Or.inl ⟨by rfl, by (intro w hSw; (try dsimp only at hSw); go_simp )⟩
              simp only [Act.put, List.setIfInBounds_toArray, List.set_cons_zero, List.set_cons_succ]
              refine wpAnyH_take (i := 3) (oi := ?oi76) (v := .pointer (some ⟨b, o + k * 2, none⟩)) ?hi76 (by kernel_rfl) (by kernel_rfl) (by kernel_rfl) ?hQ76 ?hy76 (by assumption) ?rest76
              case hi76 => (simp only [List.getElem?_toArray, List.getElem?_cons_zero, List.getElem?_cons_succ]; rfl)
              case hQ76 => exact fun _ _ _ h => h
              case hy76 => exact Or.inl ⟨by rfl, by (intro w hSw; (try dsimp only at hSw); go_simp )⟩
              simp only [Act.put, List.setIfInBounds_toArray, List.set_cons_zero, List.set_cons_succ]
              refine wpAnyH_take (i := 4) (oi := ?oi77) (v := .pointer (some ⟨b, o + k * 2 + 1, none⟩)) ?hi77 (by kernel_rfl) (by kernel_rfl) (by kernel_rfl) ?hQ77 ?hy77 (by assumption) ?rest77
              case hi77 => (simp only [List.getElem?_toArray, List.getElem?_cons_zero, List.getElem?_cons_succ]; rfl)
              case hQ77 => exact fun _ _ _ h => h
              case hy77 => exact Or.inl ⟨by rfl, by (intro w hSw; (try dsimp only at hSw); go_simp )⟩
              simp only [Act.put, List.setIfInBounds_toArray, List.set_cons_zero, List.set_cons_succ]
              refine wpAnyH_take (i := 5) (oi := ?oi78) (v := .int .u8 (c : Nat)) ?hi78 (by kernel_rfl) (by kernel_rfl) (by kernel_rfl) ?hQ78 ?hy78 (by assumption) ?rest78
              case hi78 => (simp only [List.getElem?_toArray, List.getElem?_cons_zero, List.getElem?_cons_succ]; rfl)
              case hQ78 => exact fun _ _ _ h => h
              case hy78 => exact y_cell b (o + k * 2 + 1) _ (fun V hV => (hV.2.cell (p := ⟨b, o + k * 2 + 1, none⟩) blt).trans ccw) _ Try.underlying5 rfl rfl
              simp only [Act.put, List.setIfInBounds_toArray, List.set_cons_zero, List.set_cons_succ]
              refine wpAnyH_ready (rs := [6, 10]) (by kernel_rfl) (by simp) ?_
              refine AllReadyH.cons (o := ?oi79) ?hi79 (fun K hK => ?b79) (AllReadyH.cons (o := ?oi80) ?hi80 (fun K hK => ?b80) AllReadyH.nil)
              case hi79 => (simp only [List.getElem?_toArray, List.getElem?_cons_zero, List.getElem?_cons_succ]; rfl)
              case hi80 => (simp only [List.getElem?_toArray, List.getElem?_cons_zero, List.getElem?_cons_succ]; rfl)
              case b79 =>
                go_simp
                (with_reducible refine (HP.out _).mono ?_)
                rintro e V ⟨rfl, hbc⟩
                have hH2 := hide (And.intro (hHeld.1.bl hbc) (below_bl rfl hHeld.2 hbc))
                replace H4 := hide (H4.out.bl hbc)
                replace H5 := hide (H5.out.bl hbc)
                clear hHeld hbc
                go_simp
                refine hK.out _ _ ?_ (fun hHeld => ?_)
                · exact hH2.out
                clear hK K hH2
                refine wpAnyH_take (i := 7) (oi := ?oi81) (v := .tuple #[.agg z.cells, .nilIface]) ?hi81 (by kernel_rfl) (by kernel_rfl) (by kernel_rfl) ?hQ81 ?hy81 (by assumption) ?rest81
                case hi81 => (simp only [List.getElem?_toArray, List.getElem?_cons_zero, List.getElem?_cons_succ]; rfl)
                case hQ81 => exact fun _ _ _ h => h
                case hy81 => exact Or.inl ⟨by rfl, by (intro w hSw; (try dsimp only at hSw); go_simp )⟩
                simp only [Act.put, List.setIfInBounds_toArray, List.set_cons_zero, List.set_cons_succ]
                refine wpAnyH_take (i := 8) (oi := ?oi82) (v := .agg z.cells) ?hi82 (by kernel_rfl) (by kernel_rfl) (by kernel_rfl) ?hQ82 ?hy82 (by assumption) ?rest82
                case hi82 => (simp only [List.getElem?_toArray, List.getElem?_cons_zero, List.getElem?_cons_succ]; rfl)
                case hQ82 => exact fun _ _ _ h => h
                case hy82 => exact Or.inl ⟨by rfl, by (intro w hSw; (try dsimp only at hSw); go_simp )⟩
                simp only [Act.put, List.setIfInBounds_toArray, List.set_cons_zero, List.set_cons_succ]
                refine wpAnyH_take (i := 9) (oi := ?oi83) (v := .nilIface) ?hi83 (by kernel_rfl) (by kernel_rfl) (by kernel_rfl) ?hQ83 ?hy83 (by assumption) ?rest83
                case hi83 => (simp only [List.getElem?_toArray, List.getElem?_cons_zero, List.getElem?_cons_succ]; rfl)
                case hQ83 => exact fun _ _ _ h => h
                case hy83 => exact Or.inl ⟨by rfl, by (intro w hSw; (try dsimp only at hSw); go_simp )⟩
                simp only [Act.put, List.setIfInBounds_toArray, List.set_cons_zero, List.set_cons_succ]
                refine wpAnyH_ready (rs := [10]) (by kernel_rfl) (by simp) ?_
                refine AllReadyH.cons (o := ?oi84) ?hi84 (fun K hK => ?_) AllReadyH.nil
                case hi84 => (simp only [List.getElem?_toArray, List.getElem?_cons_zero, List.getElem?_cons_succ]; rfl)
                obtain ⟨NY, hNY⟩ : ∃ n, V.heap.size = n := ⟨_, rfl⟩
                have lNY : w.heap.size + 1 ≤ NY := by have := hHeld.1.lt; omega
                replace hNY := hide hNY
                have HN4 : Hid ((Value.slice ad4 li.length cap4).ownBlock ≠ some NY) := hide (fun e => by have := (H4.out.lt e).2; have := hNY.out; omega)
                have HN5 : Hid ((Value.slice ad5 lo.length cap5).ownBlock ≠ some NY) := hide (fun e => by have := (H5.out.lt e).2; have := hNY.out; omega)
                rw [if_pos (by rfl)]
                (with_reducible refine s_alloc NY ?_ _ zero_up ?_)
                · exact hNY.out
                intro V hy hb' hzY
                have hH2 := hide (And.intro (hHeld.1.bl (hNY.out ▸ hb')) (hHeld.2.trans (hb'.mono (by omega))))
                replace H4 := hide (H4.out.bl (hNY.out ▸ hb'))
                replace H5 := hide (H5.out.bl (hNY.out ▸ hb'))
                simp only [Act.put, List.setIfInBounds_toArray, List.set_cons_zero, List.set_cons_succ]
                clear hHeld hb'
                refine hK.out _ _ ?_ (fun hHeld => ?_)
                · exact hH2.out
                clear hK K
                clear hH2
                refine wpAnyH_ready (rs := [11]) (by kernel_rfl) (by simp) ?_
                refine AllReadyH.cons (o := ?oi85) ?hi85 (fun K hK => ?_) AllReadyH.nil
                case hi85 => (simp only [List.getElem?_toArray, List.getElem?_cons_zero, List.getElem?_cons_succ]; rfl)
                rw [if_pos (by rfl)]
                (with_reducible refine s_up NY _ z hy ?_ ?_ ?_)
                · exact rfl
                · exact rfl
                intro V hnew ho
                have hH2 := hide (And.intro (hHeld.1.only ho (by omega)) (ho.bel _ _ (by omega) hHeld.2))
                replace H4 := hide (H4.out.other ho (HN4.out))
                replace H5 := hide (H5.out.other ho (HN5.out))
                replace hy := hnew
                clear hHeld hnew ho
                refine hK.out _ _ ?_ (fun hHeld => ?_)
                · exact hH2.out
                clear hK K
                clear hH2
                refine wpAnyH_take (i := 12) (oi := ?oi86) (v := .nilIface) ?hi86 (by kernel_rfl) (by kernel_rfl) (by kernel_rfl) ?hQ86 ?hy86 (by assumption) ?rest86
                case hi86 => (simp only [List.getElem?_toArray, List.getElem?_cons_zero, List.getElem?_cons_succ]; rfl)
                case hQ86 => exact fun _ _ _ h => h
                case hy86 => exact Or.inl ⟨by rfl, by (intro w hSw; (try dsimp only at hSw); go_simp )⟩
                simp only [Act.put, List.setIfInBounds_toArray, List.set_cons_zero, List.set_cons_succ]
                refine wpAnyH_done (by kernel_rfl) ?_ _
                have hr := hHeld.1
                have hb := hHeld.2
                clear hHeld
                have cc := (hb.cell (p := ⟨b, o + k * 2 + 1, none⟩) blt).trans ccw
                obtain ⟨NB, hNB⟩ : ∃ n, V.heap.size = n := ⟨_, rfl⟩
                have lNB : w.heap.size + 1 ≤ NB := by have := hr.lt; omega
                replace hNB := hide hNB
                go_wp2_with (first | ((with_reducible refine ld_up NY z hy ?_ ?_ ?_); exact rfl; exact rfl) | ((with_reducible refine st_up w.heap.size _ z hr ?_ ?_ ?_); exact rfl; exact rfl; intro W hnew ho; replace H4 := hide (H4.out.only ho (by omega)); replace H5 := hide (H5.out.only ho (by omega)); replace hr := hnew; replace hNB := hide (ho.size.trans hNB.out); replace hb := ho.bel _ _ (Nat.le_refl _) hb; replace cc := (hb.cell (p := ⟨b, o + k * 2 + 1, none⟩) blt).trans ccw) | ((with_reducible refine bs_1 NB c ?_ ?_ ?_); exact hNB.out; exact rfl; intro W hs1 hb' hz3; replace hr := hr.bl (hNB.out ▸ hb'); replace H4 := hide (H4.out.bl (hNB.out ▸ hb')); replace H5 := hide (H5.out.bl (hNB.out ▸ hb')); replace hb := hb.trans (hb'.mono (by omega))) | ((with_reducible refine op_appx (w.heap.size + 1) NB c H5.out ?_ ?_ ?_ ?_ ?_ ?_); (have := hs1.lt; omega); exact hlq; exact (hs1.cell 0).trans rfl; exact rfl; exact rfl; intro W v' hq1 hk1 hsz1 hbel1 hob1; have HX := hide (far_after H5.out H4.out (HF.out.symm) hk1 hob1); replace hr := row_after H5.out hr (by omega) hk1; replace hb := hbel1 _ _ (by omega) hb; replace H4 := hide HX.out.1; replace HF := hide (HX.out.2.symm); rw [hL.out] at hq1; obtain ⟨ad', cap', ev, hc1, hc2⟩ := hq1.form; subst ev; replace H5 := hide hq1; clear hq1 hk1 hsz1 hbel1 hob1 HX hs1) | ((with_reducible refine ld_up w.heap.size z hr ?_ ?_ ?_); exact rfl; exact rfl) | (go_at_call 14; (with_reducible refine (HC.out _).mono ?_); rintro e W ⟨rfl, hbc⟩; replace hr := hr.bl hbc; replace H4 := hide (H4.out.bl hbc); replace H5 := hide (H5.out.bl hbc); have fx := hr.cell; replace hb := below_bl rfl hb hbc))
                go_roundw
                case rel => exact ⟨k + 1, z, li, L, ov, by omega, by omega, by go_num, rfl, HZ.out, hr, H4.out, H5.out, HF.out, hb⟩
                case measure => simp [intOf]; omega
              case b80 =>
                obtain ⟨NY, hNY⟩ : ∃ n, V.heap.size = n := ⟨_, rfl⟩
                have lNY : w.heap.size + 1 ≤ NY := by have := hHeld.1.lt; omega
                replace hNY := hide hNY
                have HN4 : Hid ((Value.slice ad4 li.length cap4).ownBlock ≠ some NY) := hide (fun e => by have := (H4.out.lt e).2; have := hNY.out; omega)
                have HN5 : Hid ((Value.slice ad5 lo.length cap5).ownBlock ≠ some NY) := hide (fun e => by have := (H5.out.lt e).2; have := hNY.out; omega)
                rw [if_pos (by rfl)]
                (with_reducible refine s_alloc NY ?_ _ zero_up ?_)
                · exact hNY.out
                intro V hy hb' hzY
                have hH2 := hide (And.intro (hHeld.1.bl (hNY.out ▸ hb')) (hHeld.2.trans (hb'.mono (by omega))))
                replace H4 := hide (H4.out.bl (hNY.out ▸ hb'))
                replace H5 := hide (H5.out.bl (hNY.out ▸ hb'))
                simp only [Act.put, List.setIfInBounds_toArray, List.set_cons_zero, List.set_cons_succ]
                clear hHeld hb'
                refine hK.out _ _ ?_ (fun hHeld => ?_)
                · exact hH2.out
                clear hK K hH2
                refine wpAnyH_ready (rs := [6]) (by kernel_rfl) (by simp) ?_
                refine AllReadyH.cons (o := ?oi87) ?hi87 (fun K hK => ?_) AllReadyH.nil
                case hi87 => (simp only [List.getElem?_toArray, List.getElem?_cons_zero, List.getElem?_cons_succ]; rfl)
                go_simp
                (with_reducible refine (HP.out _).mono ?_)
                rintro e V ⟨rfl, hbc⟩
                have hH2 := hide (And.intro (hHeld.1.bl hbc) (below_bl rfl hHeld.2 hbc))
                replace H4 := hide (H4.out.bl hbc)
                replace H5 := hide (H5.out.bl hbc)
                replace hy := hy.bl hbc
                clear hHeld hbc
                go_simp
                refine hK.out _ _ ?_ (fun hHeld => ?_)
                · exact hH2.out
                clear hK K
                clear hH2
                refine wpAnyH_take (i := 7) (oi := ?oi88) (v := .tuple #[.agg z.cells, .nilIface]) ?hi88 (by kernel_rfl) (by kernel_rfl) (by kernel_rfl) ?hQ88 ?hy88 (by assumption) ?rest88
                case hi88 => (simp only [List.getElem?_toArray, List.getElem?_cons_zero, List.getElem?_cons_succ]; rfl)
                case hQ88 => exact fun _ _ _ h => h
                case hy88 => exact Or.inl ⟨by rfl, by (intro w hSw; (try dsimp only at hSw); go_simp )⟩
                simp only [Act.put, List.setIfInBounds_toArray, List.set_cons_zero, List.set_cons_succ]
                refine wpAnyH_take (i := 8) (oi := ?oi89) (v := .agg z.cells) ?hi89 (by kernel_rfl) (by kernel_rfl) (by kernel_rfl) ?hQ89 ?hy89 (by assumption) ?rest89
                case hi89 => (simp only [List.getElem?_toArray, List.getElem?_cons_zero, List.getElem?_cons_succ]; rfl)
                case hQ89 => exact fun _ _ _ h => h
                case hy89 => exact Or.inl ⟨by rfl, by (intro w hSw; (try dsimp only at hSw); go_simp )⟩
                simp only [Act.put, List.setIfInBounds_toArray, List.set_cons_zero, List.set_cons_succ]
                refine wpAnyH_take (i := 9) (oi := ?oi90) (v := .nilIface) ?hi90 (by kernel_rfl) (by kernel_rfl) (by kernel_rfl) ?hQ90 ?hy90 (by assumption) ?rest90
                case hi90 => (simp only [List.getElem?_toArray, List.getElem?_cons_zero, List.getElem?_cons_succ]; rfl)
                case hQ90 => exact fun _ _ _ h => h
                case hy90 => exact Or.inl ⟨by rfl, by (intro w hSw; (try dsimp only at hSw); go_simp )⟩
                simp only [Act.put, List.setIfInBounds_toArray, List.set_cons_zero, List.set_cons_succ]
                refine wpAnyH_ready (rs := [11]) (by kernel_rfl) (by simp) ?_
                refine AllReadyH.cons (o := ?oi91) ?hi91 (fun K hK => ?_) AllReadyH.nil
                case hi91 => (simp only [List.getElem?_toArray, List.getElem?_cons_zero, List.getElem?_cons_succ]; rfl)
                rw [if_pos (by rfl)]
                (with_reducible refine s_up NY _ z hy ?_ ?_ ?_)
                · exact rfl
                · exact rfl
                intro V hnew ho
                have hH2 := hide (And.intro (hHeld.1.only ho (by omega)) (ho.bel _ _ (by omega) hHeld.2))
                replace H4 := hide (H4.out.other ho (HN4.out))
                replace H5 := hide (H5.out.other ho (HN5.out))
                replace hy := hnew
                clear hHeld hnew ho
                refine hK.out _ _ ?_ (fun hHeld => ?_)
                · exact hH2.out
                clear hK K
                clear hH2
                refine wpAnyH_take (i := 12) (oi := ?oi92) (v := .nilIface) ?hi92 (by kernel_rfl) (by kernel_rfl) (by kernel_rfl) ?hQ92 ?hy92 (by assumption) ?rest92
                case hi92 => (simp only [List.getElem?_toArray, List.getElem?_cons_zero, List.getElem?_cons_succ]; rfl)
                case hQ92 => exact fun _ _ _ h => h
                case hy92 => exact Or.inl ⟨by rfl, by (intro w hSw; (try dsimp only at hSw); go_simp )⟩
                simp only [Act.put, List.setIfInBounds_toArray, List.set_cons_zero, List.set_cons_succ]
                refine wpAnyH_done (by kernel_rfl) ?_ _
                have hr := hHeld.1
                have hb := hHeld.2
                clear hHeld
                have cc := (hb.cell (p := ⟨b, o + k * 2 + 1, none⟩) blt).trans ccw
                obtain ⟨NB, hNB⟩ : ∃ n, V.heap.size = n := ⟨_, rfl⟩
                have lNB : w.heap.size + 1 ≤ NB := by have := hr.lt; omega
                replace hNB := hide hNB
                go_wp2_with (first | ((with_reducible refine ld_up NY z hy ?_ ?_ ?_); exact rfl; exact rfl) | ((with_reducible refine st_up w.heap.size _ z hr ?_ ?_ ?_); exact rfl; exact rfl; intro W hnew ho; replace H4 := hide (H4.out.only ho (by omega)); replace H5 := hide (H5.out.only ho (by omega)); replace hr := hnew; replace hNB := hide (ho.size.trans hNB.out); replace hb := ho.bel _ _ (Nat.le_refl _) hb; replace cc := (hb.cell (p := ⟨b, o + k * 2 + 1, none⟩) blt).trans ccw) | ((with_reducible refine bs_1 NB c ?_ ?_ ?_); exact hNB.out; exact rfl; intro W hs1 hb' hz3; replace hr := hr.bl (hNB.out ▸ hb'); replace H4 := hide (H4.out.bl (hNB.out ▸ hb')); replace H5 := hide (H5.out.bl (hNB.out ▸ hb')); replace hb := hb.trans (hb'.mono (by omega))) | ((with_reducible refine op_appx (w.heap.size + 1) NB c H5.out ?_ ?_ ?_ ?_ ?_ ?_); (have := hs1.lt; omega); exact hlq; exact (hs1.cell 0).trans rfl; exact rfl; exact rfl; intro W v' hq1 hk1 hsz1 hbel1 hob1; have HX := hide (far_after H5.out H4.out (HF.out.symm) hk1 hob1); replace hr := row_after H5.out hr (by omega) hk1; replace hb := hbel1 _ _ (by omega) hb; replace H4 := hide HX.out.1; replace HF := hide (HX.out.2.symm); rw [hL.out] at hq1; obtain ⟨ad', cap', ev, hc1, hc2⟩ := hq1.form; subst ev; replace H5 := hide hq1; clear hq1 hk1 hsz1 hbel1 hob1 HX hs1) | ((with_reducible refine ld_up w.heap.size z hr ?_ ?_ ?_); exact rfl; exact rfl) | (go_at_call 14; (with_reducible refine (HC.out _).mono ?_); rintro e W ⟨rfl, hbc⟩; replace hr := hr.bl hbc; replace H4 := hide (H4.out.bl hbc); replace H5 := hide (H5.out.bl hbc); have fx := hr.cell; replace hb := below_bl rfl hb hbc))
                go_roundw
                case rel => exact ⟨k + 1, z, li, L, ov, by omega, by omega, by go_num, rfl, HZ.out, hr, H4.out, H5.out, HF.out, hb⟩
                case measure => simp [intOf]; omega
          · as_aux_lemma =>
              have hO2 := ord_write_full HO.out hlq c
              have HP := hide (fun w => write_any s ok 0 c hc w)
              rw [write0 HO.out, show errP 0 = .nilIface from rfl, show (((0 : Nat) : Int)) = 0 from rfl] at HP
              generalize dataW s c = z at hO2 HP
              have HZ := hide hO2
              clear hO2
              have z1 : (z.rx.n != (li.length : Int)) = false := by rw [HZ.out.rn]; simp
              have z2 : (z.tx.n != (lo.length : Int)) = false := by rw [HZ.out.tn]; simp
              have z3 : (z.ov == ov) = true := by rw [HZ.out.ov]; simp
              have z4 := HZ.out.ov
              have HC := hide (fun w => check_ok z HZ.out.ok HZ.out.may w)
              have q16 : decide ((lo.length : Int) < 16) = false := by simp; omega
              have q16n : decide (lo.length < 16) = false := by simp; omega
              go_wp2_with (first | fail)
              refine wp_region_held_drew (S := (fun V => RowAt V w.heap.size s.cells 29 ∧ Below w.heap.size w V)) (by kernel_rfl) ?_ (fun hHeld => ?_)
              · exact ⟨hr.dr, hb.drew⟩
              replace H4 := hide H4.out.dr
              replace H5 := hide H5.out.dr
              generalize World.drew _ = V at hHeld H4 H5 ⊢
              clear hb hr
              refine wpAnyH_take (i := 0) (oi := ?oi93) (v := .agg s.cells) ?hi93 (by kernel_rfl) (by kernel_rfl) (by kernel_rfl) ?hQ93 ?hy93 (by assumption) ?rest93
              case hi93 => (simp only [List.getElem?_toArray, List.getElem?_cons_zero]; rfl)
              case hQ93 => exact fun _ _ _ h => h
              case hy93 => exact y_up w.heap.size s (fun V hV => hV.1) rfl rfl
              simp only [Act.put, List.setIfInBounds_toArray, List.set_cons_zero, List.set_cons_succ]
              refine wpAnyH_take (i := 1) (oi := ?oi94) (v := .slice (some ⟨b, o, none⟩) n c0) ?hi94 (by kernel_rfl) (by kernel_rfl) (by kernel_rfl) ?hQ94 ?hy94 (by assumption) ?rest94
              case hi94 => (simp only [List.getElem?_toArray, List.getElem?_cons_zero, List.getElem?_cons_succ]; rfl)
              case hQ94 => exact fun _ _ _ h => h
              case hy94 => exact Or.inl ⟨by rfl, by (intro w hSw; (try dsimp only at hSw); go_simp )⟩
              simp only [Act.put, List.setIfInBounds_toArray, List.set_cons_zero, List.set_cons_succ]
              refine wpAnyH_take (i := 2) (oi := ?oi95) (v := .int .i64 (k : Nat)) ?hi95 (by kernel_rfl) (by kernel_rfl) (by kernel_rfl) ?hQ95 ?hy95 (by assumption) ?rest95
              case hi95 => (simp only [List.getElem?_toArray, List.getElem?_cons_zero, List.getElem?_cons_succ]; rfl)
              case hQ95 => exact fun _ _ _ h => h
              case hy95 => exact Or.inl ⟨by rfl, by (intro w hSw; (try dsimp only at hSw); go_simp )⟩
              simp only [Act.put, List.setIfInBounds_toArray, List.set_cons_zero, List.set_cons_succ]
              refine wpAnyH_take (i := 3) (oi := ?oi96) (v := .pointer (some ⟨b, o + k * 2, none⟩)) ?hi96 (by kernel_rfl) (by kernel_rfl) (by kernel_rfl) ?hQ96 ?hy96 (by assumption) ?rest96
              case hi96 => (simp only [List.getElem?_toArray, List.getElem?_cons_zero, List.getElem?_cons_succ]; rfl)
              case hQ96 => exact fun _ _ _ h => h
              case hy96 => exact Or.inl ⟨by rfl, by (intro w hSw; (try dsimp only at hSw); go_simp )⟩
              simp only [Act.put, List.setIfInBounds_toArray, List.set_cons_zero, List.set_cons_succ]
              refine wpAnyH_take (i := 4) (oi := ?oi97) (v := .pointer (some ⟨b, o + k * 2 + 1, none⟩)) ?hi97 (by kernel_rfl) (by kernel_rfl) (by kernel_rfl) ?hQ97 ?hy97 (by assumption) ?rest97
              case hi97 => (simp only [List.getElem?_toArray, List.getElem?_cons_zero, List.getElem?_cons_succ]; rfl)
              case hQ97 => exact fun _ _ _ h => h
              case hy97 => exact Or.inl ⟨by rfl, by (intro w hSw; (try dsimp only at hSw); go_simp )⟩
              simp only [Act.put, List.setIfInBounds_toArray, List.set_cons_zero, List.set_cons_succ]
              refine wpAnyH_take (i := 5) (oi := ?oi98) (v := .int .u8 (c : Nat)) ?hi98 (by kernel_rfl) (by kernel_rfl) (by kernel_rfl) ?hQ98 ?hy98 (by assumption) ?rest98
              case hi98 => (simp only [List.getElem?_toArray, List.getElem?_cons_zero, List.getElem?_cons_succ]; rfl)
              case hQ98 => exact fun _ _ _ h => h
              case hy98 => exact y_cell b (o + k * 2 + 1) _ (fun V hV => (hV.2.cell (p := ⟨b, o + k * 2 + 1, none⟩) blt).trans ccw) _ Try.underlying5 rfl rfl
              simp only [Act.put, List.setIfInBounds_toArray, List.set_cons_zero, List.set_cons_succ]
              refine wpAnyH_ready (rs := [6, 10]) (by kernel_rfl) (by simp) ?_
              refine AllReadyH.cons (o := ?oi99) ?hi99 (fun K hK => ?b99) (AllReadyH.cons (o := ?oi100) ?hi100 (fun K hK => ?b100) AllReadyH.nil)
              case hi99 => (simp only [List.getElem?_toArray, List.getElem?_cons_zero, List.getElem?_cons_succ]; rfl)
              case hi100 => (simp only [List.getElem?_toArray, List.getElem?_cons_zero, List.getElem?_cons_succ]; rfl)
              case b99 =>
                go_simp
                (with_reducible refine (HP.out _).mono ?_)
                rintro e V ⟨rfl, hbc⟩
                have hH2 := hide (And.intro (hHeld.1.bl hbc) (below_bl rfl hHeld.2 hbc))
                replace H4 := hide (H4.out.bl hbc)
                replace H5 := hide (H5.out.bl hbc)
                clear hHeld hbc
                go_simp
                refine hK.out _ _ ?_ (fun hHeld => ?_)
                · exact hH2.out
                clear hK K hH2
                refine wpAnyH_take (i := 7) (oi := ?oi101) (v := .tuple #[.agg z.cells, .nilIface]) ?hi101 (by kernel_rfl) (by kernel_rfl) (by kernel_rfl) ?hQ101 ?hy101 (by assumption) ?rest101
                case hi101 => (simp only [List.getElem?_toArray, List.getElem?_cons_zero, List.getElem?_cons_succ]; rfl)
                case hQ101 => exact fun _ _ _ h => h
                case hy101 => exact Or.inl ⟨by rfl, by (intro w hSw; (try dsimp only at hSw); go_simp )⟩
                simp only [Act.put, List.setIfInBounds_toArray, List.set_cons_zero, List.set_cons_succ]
                refine wpAnyH_take (i := 8) (oi := ?oi102) (v := .agg z.cells) ?hi102 (by kernel_rfl) (by kernel_rfl) (by kernel_rfl) ?hQ102 ?hy102 (by assumption) ?rest102
                case hi102 => (simp only [List.getElem?_toArray, List.getElem?_cons_zero, List.getElem?_cons_succ]; rfl)
                case hQ102 => exact fun _ _ _ h => h
                case hy102 => exact Or.inl ⟨by rfl, by (intro w hSw; (try dsimp only at hSw); go_simp )⟩
                simp only [Act.put, List.setIfInBounds_toArray, List.set_cons_zero, List.set_cons_succ]
                refine wpAnyH_take (i := 9) (oi := ?oi103) (v := .nilIface) ?hi103 (by kernel_rfl) (by kernel_rfl) (by kernel_rfl) ?hQ103 ?hy103 (by assumption) ?rest103
                case hi103 => (simp only [List.getElem?_toArray, List.getElem?_cons_zero, List.getElem?_cons_succ]; rfl)
                case hQ103 => exact fun _ _ _ h => h
                case hy103 => exact Or.inl ⟨by rfl, by (intro w hSw; (try dsimp only at hSw); go_simp )⟩
                simp only [Act.put, List.setIfInBounds_toArray, List.set_cons_zero, List.set_cons_succ]
                refine wpAnyH_ready (rs := [10]) (by kernel_rfl) (by simp) ?_
                refine AllReadyH.cons (o := ?oi104) ?hi104 (fun K hK => ?_) AllReadyH.nil
                case hi104 => (simp only [List.getElem?_toArray, List.getElem?_cons_zero, List.getElem?_cons_succ]; rfl)
                obtain ⟨NY, hNY⟩ : ∃ n, V.heap.size = n := ⟨_, rfl⟩
                have lNY : w.heap.size + 1 ≤ NY := by have := hHeld.1.lt; omega
                replace hNY := hide hNY
                have HN4 : Hid ((Value.slice ad4 li.length cap4).ownBlock ≠ some NY) := hide (fun e => by have := (H4.out.lt e).2; have := hNY.out; omega)
                have HN5 : Hid ((Value.slice ad5 lo.length cap5).ownBlock ≠ some NY) := hide (fun e => by have := (H5.out.lt e).2; have := hNY.out; omega)
                rw [if_pos (by rfl)]
                (with_reducible refine s_alloc NY ?_ _ zero_up ?_)
                · exact hNY.out
                intro V hy hb' hzY
                have hH2 := hide (And.intro (hHeld.1.bl (hNY.out ▸ hb')) (hHeld.2.trans (hb'.mono (by omega))))
                replace H4 := hide (H4.out.bl (hNY.out ▸ hb'))
                replace H5 := hide (H5.out.bl (hNY.out ▸ hb'))
                simp only [Act.put, List.setIfInBounds_toArray, List.set_cons_zero, List.set_cons_succ]
                clear hHeld hb'
                refine hK.out _ _ ?_ (fun hHeld => ?_)
                · exact hH2.out
                clear hK K
                clear hH2
                refine wpAnyH_ready (rs := [11]) (by kernel_rfl) (by simp) ?_
                refine AllReadyH.cons (o := ?oi105) ?hi105 (fun K hK => ?_) AllReadyH.nil
                case hi105 => (simp only [List.getElem?_toArray, List.getElem?_cons_zero, List.getElem?_cons_succ]; rfl)
                rw [if_pos (by rfl)]
                (with_reducible refine s_up NY _ z hy ?_ ?_ ?_)
                · exact rfl
                · exact rfl
                intro V hnew ho
                have hH2 := hide (And.intro (hHeld.1.only ho (by omega)) (ho.bel _ _ (by omega) hHeld.2))
                replace H4 := hide (H4.out.other ho (HN4.out))
                replace H5 := hide (H5.out.other ho (HN5.out))
                replace hy := hnew
                clear hHeld hnew ho
                refine hK.out _ _ ?_ (fun hHeld => ?_)
                · exact hH2.out
                clear hK K
                clear hH2
                refine wpAnyH_take (i := 12) (oi := ?oi106) (v := .nilIface) ?hi106 (by kernel_rfl) (by kernel_rfl) (by kernel_rfl) ?hQ106 ?hy106 (by assumption) ?rest106
                case hi106 => (simp only [List.getElem?_toArray, List.getElem?_cons_zero, List.getElem?_cons_succ]; rfl)
                case hQ106 => exact fun _ _ _ h => h
                case hy106 => exact Or.inl ⟨by rfl, by (intro w hSw; (try dsimp only at hSw); go_simp )⟩
                simp only [Act.put, List.setIfInBounds_toArray, List.set_cons_zero, List.set_cons_succ]
                refine wpAnyH_done (by kernel_rfl) ?_ _
                have hr := hHeld.1
                have hb := hHeld.2
                clear hHeld
                have cc := (hb.cell (p := ⟨b, o + k * 2 + 1, none⟩) blt).trans ccw
                obtain ⟨NB, hNB⟩ : ∃ n, V.heap.size = n := ⟨_, rfl⟩
                have lNB : w.heap.size + 1 ≤ NB := by have := hr.lt; omega
                replace hNB := hide hNB
                go_wp2_with (first | ((with_reducible refine ld_up NY z hy ?_ ?_ ?_); exact rfl; exact rfl) | ((with_reducible refine st_up w.heap.size _ z hr ?_ ?_ ?_); exact rfl; exact rfl; intro W hnew ho; replace H4 := hide (H4.out.only ho (by omega)); replace H5 := hide (H5.out.only ho (by omega)); replace hr := hnew; replace hNB := hide (ho.size.trans hNB.out); replace hb := ho.bel _ _ (Nat.le_refl _) hb; replace cc := (hb.cell (p := ⟨b, o + k * 2 + 1, none⟩) blt).trans ccw) | ((with_reducible refine ld_up w.heap.size z hr ?_ ?_ ?_); exact rfl; exact rfl) | (go_at_call 14; (with_reducible refine (HC.out _).mono ?_); rintro e W ⟨rfl, hbc⟩; replace hr := hr.bl hbc; replace H4 := hide (H4.out.bl hbc); replace H5 := hide (H5.out.bl hbc); have fx := hr.cell; replace hb := below_bl rfl hb hbc))
                go_roundw
                case rel => exact ⟨k + 1, z, li, lo, ov, by omega, by omega, by go_num, rfl, HZ.out, hr, H4.out, H5.out, HF.out, hb⟩
                case measure => simp [intOf]; omega
              case b100 =>
                obtain ⟨NY, hNY⟩ : ∃ n, V.heap.size = n := ⟨_, rfl⟩
                have lNY : w.heap.size + 1 ≤ NY := by have := hHeld.1.lt; omega
                replace hNY := hide hNY
                have HN4 : Hid ((Value.slice ad4 li.length cap4).ownBlock ≠ some NY) := hide (fun e => by have := (H4.out.lt e).2; have := hNY.out; omega)
                have HN5 : Hid ((Value.slice ad5 lo.length cap5).ownBlock ≠ some NY) := hide (fun e => by have := (H5.out.lt e).2; have := hNY.out; omega)
                rw [if_pos (by rfl)]
                (with_reducible refine s_alloc NY ?_ _ zero_up ?_)
                · exact hNY.out
                intro V hy hb' hzY
                have hH2 := hide (And.intro (hHeld.1.bl (hNY.out ▸ hb')) (hHeld.2.trans (hb'.mono (by omega))))
                replace H4 := hide (H4.out.bl (hNY.out ▸ hb'))
                replace H5 := hide (H5.out.bl (hNY.out ▸ hb'))
                simp only [Act.put, List.setIfInBounds_toArray, List.set_cons_zero, List.set_cons_succ]
                clear hHeld hb'
                refine hK.out _ _ ?_ (fun hHeld => ?_)
                · exact hH2.out
                clear hK K hH2
                refine wpAnyH_ready (rs := [6]) (by kernel_rfl) (by simp) ?_
                refine AllReadyH.cons (o := ?oi107) ?hi107 (fun K hK => ?_) AllReadyH.nil
                case hi107 => (simp only [List.getElem?_toArray, List.getElem?_cons_zero, List.getElem?_cons_succ]; rfl)
                go_simp
                (with_reducible refine (HP.out _).mono ?_)
                rintro e V ⟨rfl, hbc⟩
                have hH2 := hide (And.intro (hHeld.1.bl hbc) (below_bl rfl hHeld.2 hbc))
                replace H4 := hide (H4.out.bl hbc)
                replace H5 := hide (H5.out.bl hbc)
                replace hy := hy.bl hbc
                clear hHeld hbc
                go_simp
                refine hK.out _ _ ?_ (fun hHeld => ?_)
                · exact hH2.out
                clear hK K
                clear hH2
                refine wpAnyH_take (i := 7) (oi := ?oi108) (v := .tuple #[.agg z.cells, .nilIface]) ?hi108 (by kernel_rfl) (by kernel_rfl) (by kernel_rfl) ?hQ108 ?hy108 (by assumption) ?rest108
                case hi108 => (simp only [List.getElem?_toArray, List.getElem?_cons_zero, List.getElem?_cons_succ]; rfl)
                case hQ108 => exact fun _ _ _ h => h
                case hy108 => exact Or.inl ⟨by rfl, by (intro w hSw; (try dsimp only at hSw); go_simp )⟩
                simp only [Act.put, List.setIfInBounds_toArray, List.set_cons_zero, List.set_cons_succ]
                refine wpAnyH_take (i := 8) (oi := ?oi109) (v := .agg z.cells) ?hi109 (by kernel_rfl) (by kernel_rfl) (by kernel_rfl) ?hQ109 ?hy109 (by assumption) ?rest109
                case hi109 => (simp only [List.getElem?_toArray, List.getElem?_cons_zero, List.getElem?_cons_succ]; rfl)
                case hQ109 => exact fun _ _ _ h => h
                case hy109 => exact Or.inl ⟨by rfl, by (intro w hSw; (try dsimp only at hSw); go_simp )⟩
                simp only [Act.put, List.setIfInBounds_toArray, List.set_cons_zero, List.set_cons_succ]
                refine wpAnyH_take (i := 9) (oi := ?oi110) (v := .nilIface) ?hi110 (by kernel_rfl) (by kernel_rfl) (by kernel_rfl) ?hQ110 ?hy110 (by assumption) ?rest110
                case hi110 => (simp only [List.getElem?_toArray, List.getElem?_cons_zero, List.getElem?_cons_succ]; rfl)
                case hQ110 => exact fun _ _ _ h => h
                case hy110 => exact Or.inl ⟨by rfl, by (intro w hSw; (try dsimp only at hSw); go_simp )⟩
                simp only [Act.put, List.setIfInBounds_toArray, List.set_cons_zero, List.set_cons_succ]
                refine wpAnyH_ready (rs := [11]) (by kernel_rfl) (by simp) ?_
                refine AllReadyH.cons (o := ?oi111) ?hi111 (fun K hK => ?_) AllReadyH.nil
                case hi111 => (simp only [List.getElem?_toArray, List.getElem?_cons_zero, List.getElem?_cons_succ]; rfl)
                rw [if_pos (by rfl)]
                (with_reducible refine s_up NY _ z hy ?_ ?_ ?_)
                · exact rfl
                · exact rfl
                intro V hnew ho
                have hH2 := hide (And.intro (hHeld.1.only ho (by omega)) (ho.bel _ _ (by omega) hHeld.2))
                replace H4 := hide (H4.out.other ho (HN4.out))
                replace H5 := hide (H5.out.other ho (HN5.out))
                replace hy := hnew
                clear hHeld hnew ho
                refine hK.out _ _ ?_ (fun hHeld => ?_)
                · exact hH2.out
                clear hK K
                clear hH2
                refine wpAnyH_take (i := 12) (oi := ?oi112) (v := .nilIface) ?hi112 (by kernel_rfl) (by kernel_rfl) (by kernel_rfl) ?hQ112 ?hy112 (by assumption) ?rest112
                case hi112 => (simp only [List.getElem?_toArray, List.getElem?_cons_zero, List.getElem?_cons_succ]; rfl)
                case hQ112 => exact fun _ _ _ h => h
                case hy112 => exact Or.inl ⟨by rfl, by (intro w hSw; (try dsimp only at hSw); go_simp )⟩
                simp only [Act.put, List.setIfInBounds_toArray, List.set_cons_zero, List.set_cons_succ]
                refine wpAnyH_done (by kernel_rfl) ?_ _
                have hr := hHeld.1
                have hb := hHeld.2
                clear hHeld
                have cc := (hb.cell (p := ⟨b, o + k * 2 + 1, none⟩) blt).trans ccw
                obtain ⟨NB, hNB⟩ : ∃ n, V.heap.size = n := ⟨_, rfl⟩
                have lNB : w.heap.size + 1 ≤ NB := by have := hr.lt; omega
                replace hNB := hide hNB
                go_wp2_with (first | ((with_reducible refine ld_up NY z hy ?_ ?_ ?_); exact rfl; exact rfl) | ((with_reducible refine st_up w.heap.size _ z hr ?_ ?_ ?_); exact rfl; exact rfl; intro W hnew ho; replace H4 := hide (H4.out.only ho (by omega)); replace H5 := hide (H5.out.only ho (by omega)); replace hr := hnew; replace hNB := hide (ho.size.trans hNB.out); replace hb := ho.bel _ _ (Nat.le_refl _) hb; replace cc := (hb.cell (p := ⟨b, o + k * 2 + 1, none⟩) blt).trans ccw) | ((with_reducible refine ld_up w.heap.size z hr ?_ ?_ ?_); exact rfl; exact rfl) | (go_at_call 14; (with_reducible refine (HC.out _).mono ?_); rintro e W ⟨rfl, hbc⟩; replace hr := hr.bl hbc; replace H4 := hide (H4.out.bl hbc); replace H5 := hide (H5.out.bl hbc); have fx := hr.cell; replace hb := below_bl rfl hb hbc))
                go_roundw
                case rel => exact ⟨k + 1, z, li, lo, ov, by omega, by omega, by go_num, rfl, HZ.out, hr, H4.out, H5.out, HF.out, hb⟩
                case measure => simp [intOf]; omega
        by_cases hm4 : m = 4
        · subst hm4
          cases li with
          | nil =>
            as_aux_lemma =>
              have HP := hide (fun w => read_any s ok 0 w)
              rw [ord_read_none HO.out, show errP 0 = .nilIface from rfl, show (((0 : Nat) : Int)) = 0 from rfl] at HP
              obtain ⟨z, hz⟩ : ∃ z, s = z := ⟨_, rfl⟩
              have HZ : Hid (Ord z [] lo ov) := hide (hz ▸ HO.out)
              have HP2 : Hid (∀ w, Calls Try.prog 13 #[.agg s.cells, .int .u32 0] w fun e w' => e = .returned (.tuple #[.agg z.cells, .int .u8 0, .nilIface]) ∧ Below w.heap.size w w') := hide (fun w => hz ▸ HP.out w)
              replace HP := HP2
              clear HP2 hz
              have z1 : (z.rx.n != 0) = false := by rw [HZ.out.rn]; simp
              have z2 : (z.tx.n != (lo.length : Int)) = false := by rw [HZ.out.tn]; simp
              have z3 : (z.ov == ov) = true := by rw [HZ.out.ov]; simp
              have z4 := HZ.out.ov
              have HC := hide (fun w => check_ok z HZ.out.ok HZ.out.may w)
              go_wp2_with (first | ((with_reducible refine ld_up w.heap.size s hr ?_ ?_ ?_); exact rfl; exact rfl) | (go_at_call 13; (with_reducible refine (HP.out _).mono ?_); rintro e W ⟨rfl, hbc⟩; replace hr := hr.bl hbc; replace H4 := hide (H4.out.bl hbc); replace H5 := hide (H5.out.bl hbc); obtain ⟨NY, hNY⟩ : ∃ n, W.heap.size = n := ⟨_, rfl⟩; have lNY : w.heap.size + 1 ≤ NY := (by (have := hr.lt; omega)); replace hNY := hide hNY; have HN4 : Hid ((Value.slice ad4 ([] : List Nat).length cap4).ownBlock ≠ some NY) := hide (fun e => (by (have := (H4.out.lt e).2; have := hNY.out; omega))); have HN5 : Hid ((Value.slice ad5 lo.length cap5).ownBlock ≠ some NY) := hide (fun e => (by (have := (H5.out.lt e).2; have := hNY.out; omega))); replace hb := below_bl rfl hb hbc) | ((with_reducible refine al_up NY ?_ ?_); exact hNY.out; intro W hy hb' hz2; replace hr := hr.bl (hNY.out ▸ hb'); replace H4 := hide (H4.out.bl (hNY.out ▸ hb')); replace H5 := hide (H5.out.bl (hNY.out ▸ hb')); replace hb := hb.trans (hb'.mono (by omega))) | ((with_reducible refine st_up NY _ z hy ?_ ?_ ?_); exact rfl; exact rfl; intro W hnew ho; replace H4 := hide (H4.out.other ho HN4.out); replace H5 := hide (H5.out.other ho HN5.out); replace hr := hr.only ho (by omega); replace hy := hnew; replace hb := ho.bel _ _ (by omega) hb; skip) | ((with_reducible refine ld_up NY z hy ?_ ?_ ?_); exact rfl; exact rfl) | ((with_reducible refine st_up w.heap.size _ z hr ?_ ?_ ?_); exact rfl; exact rfl; intro W hnew ho; replace H4 := hide (H4.out.only ho (by omega)); replace H5 := hide (H5.out.only ho (by omega)); replace hr := hnew; replace hb := ho.bel _ _ (Nat.le_refl _) hb) | ((with_reducible refine ld_up w.heap.size z hr ?_ ?_ ?_); exact rfl; exact rfl) | (go_at_call 14; (with_reducible refine (HC.out _).mono ?_); rintro e W ⟨rfl, hbc⟩; replace hr := hr.bl hbc; replace H4 := hide (H4.out.bl hbc); replace H5 := hide (H5.out.bl hbc); have fx := hr.cell; replace hb := below_bl rfl hb hbc))
              go_roundw
              case rel => exact ⟨k + 1, z, [], lo, ov, by omega, by omega, by go_num, rfl, HZ.out, hr, H4.out, H5.out, HF.out, hb⟩
              case measure => simp [intOf]; omega
          | cons x t =>
            obtain ⟨g4, o4, cq4, e4, hcp, hmx, _⟩ := H4.out.first
            cases e4
            clear hc4 hm4
            simp only [List.length_cons] at H4 HF hi16
            unfold maxLen at hmx
            by_cases hcut : 1 < cap4
            · as_aux_lemma =>
                obtain ⟨hO1, hO2⟩ := ord_read_some HO.out
                have HP := hide (fun w => read_any s ok 0 w)
                rw [hO1, show errP 0 = .nilIface from rfl, show (((0 : Nat) : Int)) = 0 from rfl] at HP
                dsimp only at HP
                generalize withRx s (takeF s.rx) = z at hO2 HP
                have HZ := hide hO2
                clear hO2 hO1
                have q1 : 1 < cap4 := hcut
                have z1 : (z.rx.n != (t.length : Int)) = false := by rw [HZ.out.rn]; simp
                have z2 : (z.tx.n != (lo.length : Int)) = false := by rw [HZ.out.tn]; simp
                have z3 : (z.ov == ov) = true := by rw [HZ.out.ov]; simp
                have z4 := HZ.out.ov
                have HC := hide (fun w => check_ok z HZ.out.ok HZ.out.may w)
                go_wp2_with (first | ((with_reducible refine ld_up w.heap.size s hr ?_ ?_ ?_); exact rfl; exact rfl) | (go_at_call 13; (with_reducible refine (HP.out _).mono ?_); rintro e W ⟨rfl, hbc⟩; replace hr := hr.bl hbc; replace H4 := hide (H4.out.bl hbc); replace H5 := hide (H5.out.bl hbc); obtain ⟨NY, hNY⟩ : ∃ n, W.heap.size = n := ⟨_, rfl⟩; have lNY : w.heap.size + 1 ≤ NY := (by (have := hr.lt; omega)); replace hNY := hide hNY; have HN4 : Hid ((Value.slice (some ⟨g4, o4, none⟩) (t.length + 1) cap4).ownBlock ≠ some NY) := hide (fun e => (by (have := (H4.out.lt e).2; have := hNY.out; omega))); have HN5 : Hid ((Value.slice ad5 lo.length cap5).ownBlock ≠ some NY) := hide (fun e => (by (have := (H5.out.lt e).2; have := hNY.out; omega))); replace hb := below_bl rfl hb hbc) | ((with_reducible refine al_up NY ?_ ?_); exact hNY.out; intro W hy hb' hz2; replace hr := hr.bl (hNY.out ▸ hb'); replace H4 := hide (H4.out.bl (hNY.out ▸ hb')); replace H5 := hide (H5.out.bl (hNY.out ▸ hb')); replace hb := hb.trans (hb'.mono (by omega))) | ((with_reducible refine st_up NY _ z hy ?_ ?_ ?_); exact rfl; exact rfl; intro W hnew ho; replace H4 := hide (H4.out.other ho HN4.out); replace H5 := hide (H5.out.other ho HN5.out); replace hr := hr.only ho (by omega); replace hy := hnew; replace hb := ho.bel _ _ (by omega) hb; have c0 := H4.out.cell0) | ((with_reducible refine ld_up NY z hy ?_ ?_ ?_); exact rfl; exact rfl) | ((with_reducible refine st_up w.heap.size _ z hr ?_ ?_ ?_); exact rfl; exact rfl; intro W hnew ho; clear c0; replace H4 := hide (H4.out.cut hcut); replace H4 := hide (H4.out.only ho (by omega)); replace H5 := hide (H5.out.only ho (by omega)); replace hr := hnew; replace hb := ho.bel _ _ (Nat.le_refl _) hb) | ((with_reducible refine ld_up w.heap.size z hr ?_ ?_ ?_); exact rfl; exact rfl) | (go_at_call 14; (with_reducible refine (HC.out _).mono ?_); rintro e W ⟨rfl, hbc⟩; replace hr := hr.bl hbc; replace H4 := hide (H4.out.bl hbc); replace H5 := hide (H5.out.bl hbc); have fx := hr.cell; replace hb := below_bl rfl hb hbc))
                go_roundw
                case rel => exact ⟨k + 1, z, t, lo, ov, by omega, by omega, by go_num, rfl, HZ.out, hr, H4.out, H5.out, HF.out, hb⟩
                case measure => simp [intOf]; omega
            · as_aux_lemma =>
                obtain ⟨hO1, hO2⟩ := ord_read_some HO.out
                have HP := hide (fun w => read_any s ok 0 w)
                rw [hO1, show errP 0 = .nilIface from rfl, show (((0 : Nat) : Int)) = 0 from rfl] at HP
                dsimp only at HP
                generalize withRx s (takeF s.rx) = z at hO2 HP
                have HZ := hide hO2
                clear hO2 hO1
                obtain rfl : cap4 = 1 := by omega
                obtain rfl : t = [] := List.length_eq_zero_iff.1 (by omega)
                have z1 : (z.rx.n != 0) = false := by rw [HZ.out.rn]; simp
                have z2 : (z.tx.n != (lo.length : Int)) = false := by rw [HZ.out.tn]; simp
                have z3 : (z.ov == ov) = true := by rw [HZ.out.ov]; simp
                have z4 := HZ.out.ov
                have HC := hide (fun w => check_ok z HZ.out.ok HZ.out.may w)
                go_wp2_with (first | ((with_reducible refine ld_up w.heap.size s hr ?_ ?_ ?_); exact rfl; exact rfl) | (go_at_call 13; (with_reducible refine (HP.out _).mono ?_); rintro e W ⟨rfl, hbc⟩; replace hr := hr.bl hbc; replace H4 := hide (H4.out.bl hbc); replace H5 := hide (H5.out.bl hbc); obtain ⟨NY, hNY⟩ : ∃ n, W.heap.size = n := ⟨_, rfl⟩; have lNY : w.heap.size + 1 ≤ NY := (by (have := hr.lt; omega)); replace hNY := hide hNY; have HN4 : Hid ((Value.slice (some ⟨g4, o4, none⟩) (([] : List Nat).length + 1) 1).ownBlock ≠ some NY) := hide (fun e => (by (have := (H4.out.lt e).2; have := hNY.out; omega))); have HN5 : Hid ((Value.slice ad5 lo.length cap5).ownBlock ≠ some NY) := hide (fun e => (by (have := (H5.out.lt e).2; have := hNY.out; omega))); replace hb := below_bl rfl hb hbc) | ((with_reducible refine al_up NY ?_ ?_); exact hNY.out; intro W hy hb' hz2; replace hr := hr.bl (hNY.out ▸ hb'); replace H4 := hide (H4.out.bl (hNY.out ▸ hb')); replace H5 := hide (H5.out.bl (hNY.out ▸ hb')); replace hb := hb.trans (hb'.mono (by omega))) | ((with_reducible refine st_up NY _ z hy ?_ ?_ ?_); exact rfl; exact rfl; intro W hnew ho; replace H4 := hide (H4.out.other ho HN4.out); replace H5 := hide (H5.out.other ho HN5.out); replace hr := hr.only ho (by omega); replace hy := hnew; replace hb := ho.bel _ _ (by omega) hb; have c0 := H4.out.cell0) | ((with_reducible refine ld_up NY z hy ?_ ?_ ?_); exact rfl; exact rfl) | ((with_reducible refine st_up w.heap.size _ z hr ?_ ?_ ?_); exact rfl; exact rfl; intro W hnew ho; clear c0; replace H4 := hide (H4.out.cut0 hcut); replace H4 := hide (H4.out.only ho (by omega)); replace H5 := hide (H5.out.only ho (by omega)); replace hr := hnew; replace hb := ho.bel _ _ (Nat.le_refl _) hb) | ((with_reducible refine ld_up w.heap.size z hr ?_ ?_ ?_); exact rfl; exact rfl) | (go_at_call 14; (with_reducible refine (HC.out _).mono ?_); rintro e W ⟨rfl, hbc⟩; replace hr := hr.bl hbc; replace H4 := hide (H4.out.bl hbc); replace H5 := hide (H5.out.bl hbc); have fx := hr.cell; replace hb := below_bl rfl hb hbc))
                go_roundw
                case rel => exact ⟨k + 1, z, [], lo, ov, by omega, by omega, by go_num, rfl, HZ.out, hr, H4.out, H5.out, HF.out, hb⟩
                case measure => simp [intOf]; omega
        have m5 : 5 ≤ m := by omega
        have t0 : ((m : Int) == 0) = false := by simp; omega
        have t1 : ((m : Int) == 1) = false := by simp; omega
        have t2 : ((m : Int) == 2) = false := by simp; omega
        have t3 : ((m : Int) == 3) = false := by simp; omega
        have t4 : ((m : Int) == 4) = false := by simp; omega
        clear hm0 hm1 hm2 hm3 hm4
        cases lo with
        | nil =>
          as_aux_lemma =>
            have HP := hide (fun w => utick_any s ok w)
            rw [ord_tick_idle HO.out, show (((0 : Nat) : Int)) = 0 from rfl] at HP
            dsimp only at HP
            have HZ := hide HO.out
            obtain ⟨z, hz⟩ : ∃ z, s = z := ⟨_, rfl⟩
            rw [hz] at HZ
            have HP2 : Hid (∀ w, Calls Try.prog 6 #[.agg s.cells] w fun e w' => e = .returned (.tuple #[.agg z.cells, .int .u8 0, .bool false]) ∧ Below w.heap.size w w') := hide (fun w => hz ▸ HP.out w)
            replace HP := HP2
            clear HP2 hz
            have z1 : (z.rx.n != (li.length : Int)) = false := by rw [HZ.out.rn]; simp
            have z2 : (z.tx.n != 0) = false := by rw [HZ.out.tn]; simp
            have z3 : (z.ov == ov) = true := by rw [HZ.out.ov]; simp
            have z4 := HZ.out.ov
            have HC := hide (fun w => check_ok z HZ.out.ok HZ.out.may w)
            go_wp2_with (first | ((with_reducible refine ld_up w.heap.size s hr ?_ ?_ ?_); exact rfl; exact rfl) | (go_at_call 6; (with_reducible refine (HP.out _).mono ?_); rintro e W ⟨rfl, hbc⟩; replace hr := hr.bl hbc; replace H4 := hide (H4.out.bl hbc); replace H5 := hide (H5.out.bl hbc); obtain ⟨NY, hNY⟩ : ∃ n, W.heap.size = n := ⟨_, rfl⟩; have lNY : w.heap.size + 1 ≤ NY := (by (have := hr.lt; omega)); replace hNY := hide hNY; have HN4 : Hid ((Value.slice ad4 li.length cap4).ownBlock ≠ some NY) := hide (fun e => (by (have := (H4.out.lt e).2; have := hNY.out; omega))); have HN5 : Hid ((Value.slice ad5 ([] : List Nat).length cap5).ownBlock ≠ some NY) := hide (fun e => (by (have := (H5.out.lt e).2; have := hNY.out; omega))); replace hb := below_bl rfl hb hbc) | ((with_reducible refine al_up NY ?_ ?_); exact hNY.out; intro W hy hb' hz2; replace hr := hr.bl (hNY.out ▸ hb'); replace H4 := hide (H4.out.bl (hNY.out ▸ hb')); replace H5 := hide (H5.out.bl (hNY.out ▸ hb')); replace hb := hb.trans (hb'.mono (by omega))) | ((with_reducible refine st_up NY _ z hy ?_ ?_ ?_); exact rfl; exact rfl; intro W hnew ho; replace H4 := hide (H4.out.other ho HN4.out); replace H5 := hide (H5.out.other ho HN5.out); replace hr := hr.only ho (by omega); replace hy := hnew; replace hb := ho.bel _ _ (by omega) hb; skip) | ((with_reducible refine ld_up NY z hy ?_ ?_ ?_); exact rfl; exact rfl) | ((with_reducible refine st_up w.heap.size _ z hr ?_ ?_ ?_); exact rfl; exact rfl; intro W hnew ho; replace H4 := hide (H4.out.only ho (by omega)); replace H5 := hide (H5.out.only ho (by omega)); replace hr := hnew; replace hb := ho.bel _ _ (Nat.le_refl _) hb) | ((with_reducible refine ld_up w.heap.size z hr ?_ ?_ ?_); exact rfl; exact rfl) | (go_at_call 14; (with_reducible refine (HC.out _).mono ?_); rintro e W ⟨rfl, hbc⟩; replace hr := hr.bl hbc; replace H4 := hide (H4.out.bl hbc); replace H5 := hide (H5.out.bl hbc); have fx := hr.cell; replace hb := below_bl rfl hb hbc))
            go_roundw
            case rel => exact ⟨k + 1, z, li, [], ov, by omega, by omega, by go_num, rfl, HZ.out, hr, H4.out, H5.out, HF.out, hb⟩
            case measure => simp [intOf]; omega
        | cons x t =>
          obtain ⟨g5, o5, cq5, e5, hcp, hmx, _⟩ := H5.out.first
          cases e5
          clear hc5 hm5
          simp only [List.length_cons] at H5 HF ho16
          unfold maxLen at hmx
          by_cases hwt : s.wt < 3
          · as_aux_lemma =>
              obtain ⟨hO1, hO2⟩ := ord_tick_wait HO.out hwt
              have HP := hide (fun w => utick_any s ok w)
              rw [hO1, show (((0 : Nat) : Int)) = 0 from rfl] at HP
              dsimp only at HP
              have HZ := hide hO2
              obtain ⟨z, hz⟩ : ∃ z, withWt s (s.wt + 1) = z := ⟨_, rfl⟩
              rw [hz] at HZ
              have HP2 : Hid (∀ w, Calls Try.prog 6 #[.agg s.cells] w fun e w' => e = .returned (.tuple #[.agg z.cells, .int .u8 0, .bool false]) ∧ Below w.heap.size w w') := hide (fun w => hz ▸ HP.out w)
              replace HP := HP2
              clear HP2 hz
              clear hO1 hO2
              have z1 : (z.rx.n != (li.length : Int)) = false := by rw [HZ.out.rn]; simp
              have z2 : (z.tx.n != ((t.length : Int) + 1)) = false := by rw [HZ.out.tn]; simp
              have z3 : (z.ov == ov) = true := by rw [HZ.out.ov]; simp
              have z4 := HZ.out.ov
              have HC := hide (fun w => check_ok z HZ.out.ok HZ.out.may w)
              go_wp2_with (first | ((with_reducible refine ld_up w.heap.size s hr ?_ ?_ ?_); exact rfl; exact rfl) | (go_at_call 6; (with_reducible refine (HP.out _).mono ?_); rintro e W ⟨rfl, hbc⟩; replace hr := hr.bl hbc; replace H4 := hide (H4.out.bl hbc); replace H5 := hide (H5.out.bl hbc); obtain ⟨NY, hNY⟩ : ∃ n, W.heap.size = n := ⟨_, rfl⟩; have lNY : w.heap.size + 1 ≤ NY := (by (have := hr.lt; omega)); replace hNY := hide hNY; have HN4 : Hid ((Value.slice ad4 li.length cap4).ownBlock ≠ some NY) := hide (fun e => (by (have := (H4.out.lt e).2; have := hNY.out; omega))); have HN5 : Hid ((Value.slice (some ⟨g5, o5, none⟩) (t.length + 1) cap5).ownBlock ≠ some NY) := hide (fun e => (by (have := (H5.out.lt e).2; have := hNY.out; omega))); replace hb := below_bl rfl hb hbc) | ((with_reducible refine al_up NY ?_ ?_); exact hNY.out; intro W hy hb' hz2; replace hr := hr.bl (hNY.out ▸ hb'); replace H4 := hide (H4.out.bl (hNY.out ▸ hb')); replace H5 := hide (H5.out.bl (hNY.out ▸ hb')); replace hb := hb.trans (hb'.mono (by omega))) | ((with_reducible refine st_up NY _ z hy ?_ ?_ ?_); exact rfl; exact rfl; intro W hnew ho; replace H4 := hide (H4.out.other ho HN4.out); replace H5 := hide (H5.out.other ho HN5.out); replace hr := hr.only ho (by omega); replace hy := hnew; replace hb := ho.bel _ _ (by omega) hb; skip) | ((with_reducible refine ld_up NY z hy ?_ ?_ ?_); exact rfl; exact rfl) | ((with_reducible refine st_up w.heap.size _ z hr ?_ ?_ ?_); exact rfl; exact rfl; intro W hnew ho; replace H4 := hide (H4.out.only ho (by omega)); replace H5 := hide (H5.out.only ho (by omega)); replace hr := hnew; replace hb := ho.bel _ _ (Nat.le_refl _) hb) | ((with_reducible refine ld_up w.heap.size z hr ?_ ?_ ?_); exact rfl; exact rfl) | (go_at_call 14; (with_reducible refine (HC.out _).mono ?_); rintro e W ⟨rfl, hbc⟩; replace hr := hr.bl hbc; replace H4 := hide (H4.out.bl hbc); replace H5 := hide (H5.out.bl hbc); have fx := hr.cell; replace hb := below_bl rfl hb hbc))
              go_roundw
              case rel => exact ⟨k + 1, z, li, (x :: t), ov, by omega, by omega, by go_num, rfl, HZ.out, hr, H4.out, H5.out, HF.out, hb⟩
              case measure => simp [intOf]; omega
          by_cases hcut : 1 < cap5
          · as_aux_lemma =>
              obtain ⟨hO1, hw3, hO2⟩ := ord_tick_out HO.out hwt
              have HP := hide (fun w => utick_any s ok w)
              rw [hO1] at HP
              dsimp only at HP
              generalize withTx (withWt s 0) (takeF s.tx) = z at hO2 HP
              have HZ := hide hO2
              have w3 : (s.wt != 3) = false := by rw [hw3]; rfl
              clear hO2 hO1 hw3 hwt
              have q1 : 1 < cap5 := hcut
              have z1 : (z.rx.n != (li.length : Int)) = false := by rw [HZ.out.rn]; simp
              have z2 : (z.tx.n != (t.length : Int)) = false := by rw [HZ.out.tn]; simp
              have z3 : (z.ov == ov) = true := by rw [HZ.out.ov]; simp
              have z4 := HZ.out.ov
              have HC := hide (fun w => check_ok z HZ.out.ok HZ.out.may w)
              go_wp2_with (first | ((with_reducible refine ld_up w.heap.size s hr ?_ ?_ ?_); exact rfl; exact rfl) | (go_at_call 6; (with_reducible refine (HP.out _).mono ?_); rintro e W ⟨rfl, hbc⟩; replace hr := hr.bl hbc; replace H4 := hide (H4.out.bl hbc); replace H5 := hide (H5.out.bl hbc); obtain ⟨NY, hNY⟩ : ∃ n, W.heap.size = n := ⟨_, rfl⟩; have lNY : w.heap.size + 1 ≤ NY := (by (have := hr.lt; omega)); replace hNY := hide hNY; have HN4 : Hid ((Value.slice ad4 li.length cap4).ownBlock ≠ some NY) := hide (fun e => (by (have := (H4.out.lt e).2; have := hNY.out; omega))); have HN5 : Hid ((Value.slice (some ⟨g5, o5, none⟩) (t.length + 1) cap5).ownBlock ≠ some NY) := hide (fun e => (by (have := (H5.out.lt e).2; have := hNY.out; omega))); replace hb := below_bl rfl hb hbc) | ((with_reducible refine al_up NY ?_ ?_); exact hNY.out; intro W hy hb' hz2; replace hr := hr.bl (hNY.out ▸ hb'); replace H4 := hide (H4.out.bl (hNY.out ▸ hb')); replace H5 := hide (H5.out.bl (hNY.out ▸ hb')); replace hb := hb.trans (hb'.mono (by omega))) | ((with_reducible refine st_up NY _ z hy ?_ ?_ ?_); exact rfl; exact rfl; intro W hnew ho; replace H4 := hide (H4.out.other ho HN4.out); replace H5 := hide (H5.out.other ho HN5.out); replace hr := hr.only ho (by omega); replace hy := hnew; replace hb := ho.bel _ _ (by omega) hb; have c0 := H5.out.cell0; have fy := hr.cell) | ((with_reducible refine ld_up NY z hy ?_ ?_ ?_); exact rfl; exact rfl) | ((with_reducible refine st_up w.heap.size _ z hr ?_ ?_ ?_); exact rfl; exact rfl; intro W hnew ho; clear c0 fy; replace H5 := hide (H5.out.cut hcut); replace H4 := hide (H4.out.only ho (by omega)); replace H5 := hide (H5.out.only ho (by omega)); replace hr := hnew; replace hb := ho.bel _ _ (Nat.le_refl _) hb) | ((with_reducible refine ld_up w.heap.size z hr ?_ ?_ ?_); exact rfl; exact rfl) | (go_at_call 14; (with_reducible refine (HC.out _).mono ?_); rintro e W ⟨rfl, hbc⟩; replace hr := hr.bl hbc; replace H4 := hide (H4.out.bl hbc); replace H5 := hide (H5.out.bl hbc); have fx := hr.cell; replace hb := below_bl rfl hb hbc))
              go_roundw
              case rel => exact ⟨k + 1, z, li, t, ov, by omega, by omega, by go_num, rfl, HZ.out, hr, H4.out, H5.out, HF.out, hb⟩
              case measure => simp [intOf]; omega
          · as_aux_lemma =>
              obtain ⟨hO1, hw3, hO2⟩ := ord_tick_out HO.out hwt
              have HP := hide (fun w => utick_any s ok w)
              rw [hO1] at HP
              dsimp only at HP
              generalize withTx (withWt s 0) (takeF s.tx) = z at hO2 HP
              have HZ := hide hO2
              have w3 : (s.wt != 3) = false := by rw [hw3]; rfl
              clear hO2 hO1 hw3 hwt
              obtain rfl : cap5 = 1 := by omega
              obtain rfl : t = [] := List.length_eq_zero_iff.1 (by omega)
              have z1 : (z.rx.n != (li.length : Int)) = false := by rw [HZ.out.rn]; simp
              have z2 : (z.tx.n != 0) = false := by rw [HZ.out.tn]; simp
              have z3 : (z.ov == ov) = true := by rw [HZ.out.ov]; simp
              have z4 := HZ.out.ov
              have HC := hide (fun w => check_ok z HZ.out.ok HZ.out.may w)
              go_wp2_with (first | ((with_reducible refine ld_up w.heap.size s hr ?_ ?_ ?_); exact rfl; exact rfl) | (go_at_call 6; (with_reducible refine (HP.out _).mono ?_); rintro e W ⟨rfl, hbc⟩; replace hr := hr.bl hbc; replace H4 := hide (H4.out.bl hbc); replace H5 := hide (H5.out.bl hbc); obtain ⟨NY, hNY⟩ : ∃ n, W.heap.size = n := ⟨_, rfl⟩; have lNY : w.heap.size + 1 ≤ NY := (by (have := hr.lt; omega)); replace hNY := hide hNY; have HN4 : Hid ((Value.slice ad4 li.length cap4).ownBlock ≠ some NY) := hide (fun e => (by (have := (H4.out.lt e).2; have := hNY.out; omega))); have HN5 : Hid ((Value.slice (some ⟨g5, o5, none⟩) (([] : List Nat).length + 1) 1).ownBlock ≠ some NY) := hide (fun e => (by (have := (H5.out.lt e).2; have := hNY.out; omega))); replace hb := below_bl rfl hb hbc) | ((with_reducible refine al_up NY ?_ ?_); exact hNY.out; intro W hy hb' hz2; replace hr := hr.bl (hNY.out ▸ hb'); replace H4 := hide (H4.out.bl (hNY.out ▸ hb')); replace H5 := hide (H5.out.bl (hNY.out ▸ hb')); replace hb := hb.trans (hb'.mono (by omega))) | ((with_reducible refine st_up NY _ z hy ?_ ?_ ?_); exact rfl; exact rfl; intro W hnew ho; replace H4 := hide (H4.out.other ho HN4.out); replace H5 := hide (H5.out.other ho HN5.out); replace hr := hr.only ho (by omega); replace hy := hnew; replace hb := ho.bel _ _ (by omega) hb; have c0 := H5.out.cell0; have fy := hr.cell) | ((with_reducible refine ld_up NY z hy ?_ ?_ ?_); exact rfl; exact rfl) | ((with_reducible refine st_up w.heap.size _ z hr ?_ ?_ ?_); exact rfl; exact rfl; intro W hnew ho; clear c0 fy; replace H5 := hide (H5.out.cut0 hcut); replace H4 := hide (H4.out.only ho (by omega)); replace H5 := hide (H5.out.only ho (by omega)); replace hr := hnew; replace hb := ho.bel _ _ (Nat.le_refl _) hb) | ((with_reducible refine ld_up w.heap.size z hr ?_ ?_ ?_); exact rfl; exact rfl) | (go_at_call 14; (with_reducible refine (HC.out _).mono ?_); rintro e W ⟨rfl, hbc⟩; replace hr := hr.bl hbc; replace H4 := hide (H4.out.bl hbc); replace H5 := hide (H5.out.bl hbc); have fx := hr.cell; replace hb := below_bl rfl hb hbc))
              go_roundw
              case rel => exact ⟨k + 1, z, li, [], ov, by omega, by omega, by go_num, rfl, HZ.out, hr, H4.out, H5.out, HF.out, hb⟩
              case measure => simp [intOf]; omega
      · obtain rfl : k = 200 := by omega
        have kn : ((200 : Nat) : Int) < (n : Int) := by omega
        go_wp2_with (first | (go_at_call 11; (with_reducible refine (HS.out _).mono ?_); rintro e W ⟨rfl, hbc⟩; replace hb := below_bl rfl hb hbc))
        go_ret
        exact ⟨rfl, hb⟩
    · obtain rfl : k = n := by omega
      have kn : decide ((k : Int) < (k : Int)) = false := by simp
      have knn : decide (k < k) = false := by simp
      go_wp2_with (first | (go_at_call 11; (with_reducible refine (HS.out _).mono ?_); rintro e W ⟨rfl, hbc⟩; replace hb := below_bl rfl hb hbc))
      go_ret
      exact ⟨rfl, hb⟩
end Go.Proofs.Ythopfecjnbfnmaa
