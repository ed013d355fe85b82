/-
  512 bytes that the law fills, and pieces of regions that draw.
-/
import Derived.Test.YtaaiockiojejeaaGreatDoorJH11
import Derived.Test.YtaaiockiojejeaaGreatDoorJH41
import Derived.Test.YtaaiockiojejeaaGreatDoorJH22
import Derived.Test.YtaaiockiojejeaaGreatDoorJH6
namespace Go.Proofs.YtaaiockiojejeaaGreatDoor
open Go.RowKit
set_option linter.unusedVariables false
set_option linter.unusedSimpArgs false

variable {ops : Array Oper} {rest : List Oper} {dst : Option Tmp} {ty : TypeId} {pos : String} {after : Array Edge} {a : Act} {w : World} {Q : Exit → Act → World → Prop} {K : Act → World → Prop} {x y : Operand} {gd : Option (Nat × Bool)}
def suC : Array Value := #[.int .u32 (0), .int .u32 (2147484416), .int .u32 (8), .int .u32 (16), .int .u32 (12), .int .u32 (65537), .int .u32 (16), .int .u32 (2147487744), .int .u32 (24), .int .u32 (513), .int .u32 (28), .int .u32 (2), .int .u32 (256), .int .u32 (65536), .int .u32 (776), .int .u32 (3)]
theorem bs_su (N : Nat) (hN : w.heap.size = N) (x0 x1 x2 x3 x4 x5 x6 x7 : Operand) (h0 : a.eval x0 = .agg #[.int .u32 (0), .int .u32 (2147484416)]) (h1 : a.eval x1 = .agg #[.int .u32 (8), .int .u32 (16)]) (h2 : a.eval x2 = .agg #[.int .u32 (12), .int .u32 (65537)]) (h3 : a.eval x3 = .agg #[.int .u32 (16), .int .u32 (2147487744)]) (h4 : a.eval x4 = .agg #[.int .u32 (24), .int .u32 (513)]) (h5 : a.eval x5 = .agg #[.int .u32 (28), .int .u32 (2)]) (h6 : a.eval x6 = .agg #[.int .u32 (256), .int .u32 (65536)]) (h7 : a.eval x7 = .agg #[.int .u32 (776), .int .u32 (3)])
    (k : ∀ W, RowAt W N (suC) 23 → Below N w W → Hid (W.heap.size = N + 1) → wpList Tryz.prog ops Q rest (a.put dst (.slice (some ⟨N, 0, none⟩) 8 8)) W) :
    wpList Tryz.prog ops Q (⟨dst, .buildSlice 35 8 #[(0, x0), (1, x1), (2, x2), (3, x3), (4, x4), (5, x5), (6, x6), (7, x7)], ty, pos, after, none⟩ :: rest) a w :=
  op_bsn 35 23 8 Tryz.underlying35 (suC) N hN [(0, .agg #[.int .u32 (0), .int .u32 (2147484416)]), (1, .agg #[.int .u32 (8), .int .u32 (16)]), (2, .agg #[.int .u32 (12), .int .u32 (65537)]), (3, .agg #[.int .u32 (16), .int .u32 (2147487744)]), (4, .agg #[.int .u32 (24), .int .u32 (513)]), (5, .agg #[.int .u32 (28), .int .u32 (2)]), (6, .agg #[.int .u32 (256), .int .u32 (65536)]), (7, .agg #[.int .u32 (776), .int .u32 (3)])] (by simp [h0, h1, h2, h3, h4, h5, h6, h7]) ⟨by kernel_rfl⟩ k
theorem pairs_su {W : World} {N B : Nat} (h : RowAt W N (suC) 23) (hB : N < B) : PairsAt W B (some ⟨N, 0, none⟩) 8 (suG) := by
  refine ⟨fun j hj => ⟨N, 0, rfl, hB, ?_, ?_⟩, fun j hj => ?_⟩
  · rw [h.cell]; rcases j with _ | _ | _ | _ | _ | _ | _ | _ | j <;> first | rfl | omega
  · rw [h.cell]; rcases j with _ | _ | _ | _ | _ | _ | _ | _ | j <;> first | rfl | omega
  · rcases j with _ | _ | _ | _ | _ | _ | _ | _ | j <;> first | (constructor <;> decide) | (refine ⟨by decide, ?_⟩; simp only [suG]; omega) | omega
theorem suQ_ok : suQ.Ok := ⟨by decide, by decide, by decide, by decide, by decide, by decide, fun g hg => by obtain rfl := List.mem_singleton.1 hg; exact ⟨by decide, by decide, by decide⟩, by decide⟩
theorem suS_ok : suS.Ok := ⟨lvP_ok (by decide) (by decide) (by decide), by show 100 < _; decide, by show 1 < _; decide, fun q h => by obtain rfl := List.mem_singleton.1 h; exact suQ_ok, by show 1 ≤ _; decide⟩
def suT : Bk := ⟨lvP 1 1 1, 100, false, 1, [suQ]⟩
set_option maxRecDepth 20000 in
set_option maxHeartbeats 4000000 in
theorem bsure_any (w : World) (hA : AreasAt w) : Calls Tryz.prog 10 #[] w fun e w' => e = .returned (.bool true) ∧ Below w.heap.size w w' := by
  obtain ⟨B, hB⟩ : ∃ B, w.heap.size = B := ⟨_, rfl⟩
  have hG0 : 2 < B := hB ▸ hA.lt
  have hG : 2 < B + 1 + 1 := by omega
  have hA0 := hA
  rw [hB]
  have HBo : Hid (∀ W, W.heap.size = B + 1 → RowAt W B suC 23 → Calls Tryz.prog 8 #[.slice (some ⟨B, 0, none⟩) 8 8] W fun e w' => ∃ b O r, e = .returned (.tuple #[.pointer (some ⟨b, 0, none⟩), .agg (RP.v r 8192 2)]) ∧ RamB w' (B + 1 + 1) b 2 suF 80 O ∧ Below (B + 1) W w') := hide (fun W hz hr => by
    have h := rboth_any (some ⟨B, 0, none⟩) 8 8 suG W (pairs_su hr (by omega)) (by decide) (by decide)
    rw [hz] at h
    exact h.mono (by
      rintro e w' ⟨b, f, O, r, hf, he, h1, _, h3⟩
      rw [hf] at h1
      exact ⟨b, O, r, he, h1, h3⟩))
  have HLi := hide blive_any
  have HPo : Hid (∀ W O1 b, RamB W (B + 1 + 1) b 2 suF 80 O1 → AreasAt W → Calls Tryz.prog 12 #[.agg (lvS.c nilS), .pointer (some ⟨b, 0, none⟩)] W fun e w' => ∃ v' av qv dv O', e = .returned (.tuple #[.agg (suS.c v'), av]) ∧ RamB w' (B + 1 + 1) b 2 suF 262224 O' ∧ Went (B + 1 + 1) O1 O' W w' ∧ InAt w' W.heap.size O' v' [(suQ, qv)] ∧ AsksAt w' W.heap.size O' av [(⟨0, false, 3, 512, []⟩, dv)]) := hide (fun W O1 b hM hA => poll_lv hM hA hG (by decide) su_pol rfl)
  have HFi : Hid (∀ W O1 b v qv Bi NB, RamB W (B + 1 + 1) b 2 suF 262224 O1 → AreasAt W → InAt W Bi O1 v [(suQ, qv)] → W.ownsRow NB 5 1 (.slice (some ⟨NB, 0, none⟩) 512 512) 512 (byteV (List.replicate 512 0)) → Calls Tryz.prog 17 #[.agg (suS.c v), .pointer (some ⟨b, 0, none⟩), .int .u32 0, .bool true, .slice (some ⟨NB, 0, none⟩) 512 512] W fun e w' => ∃ v' O', e = .returned (.tuple #[.agg (suT.c v'), .nilIface]) ∧ Went (B + 1 + 1) O1 O' W w' ∧ InAt w' W.heap.size O' v' []) := hide (fun W O1 b v qv Bi NB hM hA hI hD => by
    have h := finish_read suS suS_ok [(suQ, qv)] rfl (by show 1 ≤ 90; decide) v 0 hM hA hG hI (by decide) 0 suQ qv (by kernel_rfl) rfl (by decide) (some ⟨NB, 0, none⟩) 512 512 (List.replicate 512 0) (by rw [List.length_replicate]) (fun y hy => by rw [List.eq_of_mem_replicate hy]; decide) hD rfl rfl (by decide)
    rw [show suQ.l = [⟨2147487744, 513, true⟩] from rfl, show suQ.hd = 0 from rfl, su_ans] at h
    refine h.mono ?_
    rintro e w' ⟨v', rfl, l', O', h1, _, h3, h4⟩
    obtain rfl := map_none h1
    exact ⟨v', O', rfl, h3, h4⟩)
  clear hA
  go_enter Tryz.func10, Tryz.ntmps10
  go_wp2_with (first | ((with_reducible refine bs_su B ?_ _ _ _ _ _ _ _ _ ?_ ?_ ?_ ?_ ?_ ?_ ?_ ?_ ?_); exact hB; exact rfl; exact rfl; exact rfl; exact rfl; exact rfl; exact rfl; exact rfl; exact rfl; intro W hq hb hz) | (go_at_call 8; (with_reducible refine (HBo.out _ hz.out hq).mono ?_); rintro e W1 ⟨b, O, r, rfl, hM, hbc⟩; replace hb := hb.trans (hbc.mono (by omega)); have hA := hA0.bl (hB ▸ hb); obtain ⟨NX, hNX0⟩ : ∃ n, W1.heap.size = n := ⟨_, rfl⟩; have hNX := hide hNX0; have hNB : B + 1 + 1 ≤ NX := hNX0 ▸ hM.base; have hnx : ¬ O NX := (fun e => absurd (hM.lt _ e) (by omega)); clear hNX0 hbc hq hz) | ((with_reducible refine al_Rz NX ?_ ?_); exact hNX.out; intro W hx hb' hz2; have hbc : Below W1.heap.size W1 W := (by rw [hNX.out]; exact hb'); replace hb := hb.trans (hb'.mono (by omega)); replace hM := hM.bl hbc; replace hA := hA.bl hbc; clear hb' hbc) | ((with_reducible refine st_R NX _ r 8192 2 hx ?_ ?_ ?_ ?_); exact rfl; exact rfl; exact rfl; intro W hnew hoo; replace hM := hM.only hoo hnx; replace hA := hA.onlyR hoo (by omega); replace hb := hoo.bel _ _ (by omega) hb; clear hnew hoo hx) | (go_at_call 20; (with_reducible refine (HLi.out _).mono ?_); rintro e W ⟨rfl, hbc⟩; replace hb := hb.trans (hbc.mono (by have := hM.base; omega)); replace hM := hM.bl hbc; replace hA := hA.bl hbc; clear hbc) | (go_at_call 12; (with_reducible refine (HPo.out _ _ _ hM hA).mono ?_); rintro e W2 ⟨v1, av, qv, dv, O2, rfl, hM2, hW2, hI, hK⟩; replace hb := hb.trans (hW2.below.mono (by omega)); replace hA := hA.wentR hG hW2; replace hM := hM2; clear hM2 hW2; (obtain ⟨ga, ca, cur, rfl, hga, hgo, hgr, k0, k1, k2, k3, k4⟩ := asks_one hK); (have hv1o := own_one hI.row); obtain ⟨NR, hNR0⟩ : ∃ n, W2.heap.size = n := ⟨_, rfl⟩; have hNR := hide hNR0; have hRB : B + 1 + 1 ≤ NR := hNR0 ▸ hM.base; (have hgl : ga < NR := hNR0 ▸ hgr.lt); (have hil : ∀ g, v1.ownBlock = some g → g < NR := fun g e => hNR0 ▸ (hI.row.lt g e).2); (have hils : ∀ x ∈ [(suQ, qv)], ∀ g, x.2.ownBlock = some g → g < NR := fun x hx g e => hNR0 ▸ ((hI.own x hx).lt g e).2); have hnr : ¬ O2 NR := (fun e => absurd (hM.lt _ e) (by omega)); clear hNR0 hK hga) | ((with_reducible refine al_bk NR ?_ ?_); exact hNR.out; intro W hr hb' hz2; have hbc : Below W2.heap.size W2 W := (by rw [hNR.out]; exact hb'); replace hb := hb.trans (hb'.mono (by omega)); replace hM := hM.bl hbc; replace hA := hA.bl hbc; replace hI := hI.bl hbc; replace hgr := hgr.bl hbc; clear hb' hbc hz2) | ((with_reducible refine st_bk NR _ _ suS v1 hv1o hr ?_ ?_ ?_); exact rfl; exact rfl; intro W hnew hoo; replace hM := hM.only hoo hnr; replace hA := hA.onlyR hoo (by omega); replace hb := hoo.bel _ _ (by omega) hb; replace hI := hI.only hoo (fun e => absurd (hil _ e) (by omega)) (fun x hx e => absurd (hils x hx _ e) (by omega)); replace hgr := hgr.only hoo (by omega); replace hr := hnew; clear hnew hoo))
  (obtain ⟨va1, vc1, rfl⟩ := in_one hI)
  refine wp_region_held_drew (S := (fun V => RowAt V NR (suS.c (.slice va1 1 vc1)) 53)) (by kernel_rfl) ?_ (fun hHeld => ?_)
  · exact hr.dr
  replace hM := hM.dr
  replace hA := hA.drR
  replace hb := hb.drew
  replace hI := hI.dr
  replace hgr := hgr.dr
  have hNl : NR < (World.drew _).heap.size := hr.lt
  generalize World.drew _ = V at hHeld hM hA hb hI hgr hNl ⊢
  clear hr hNR
  refine tkO 0 (.agg (suS.c (.slice va1 1 vc1))) (by simp only [gT, gZ]; rfl) (y_bk NR suS (.slice va1 1 vc1) (fun V hV => hV) rfl rfl) ?_
  simp only [Act.put, pA, pZ, pS]
  refine tkO 1 (.pointer (some ⟨b, 0, none⟩)) (by simp only [gT, gZ, gS]; rfl) (puO (by (intro w hSw; (try dsimp only at hSw); go_simp))) ?_
  simp only [Act.put, pA, pZ, pS]
  refine wpAnyH_ready (rs := [2, 7]) (by kernel_rfl) (by simp) ?_
  refine AllReadyH.cons (o := ?oi3) ?hi3 (fun K hK => ?b3) (AllReadyH.cons (o := ?oi4) ?hi4 (fun K hK => ?b4) AllReadyH.nil)
  case hi3 => (simp only [List.getElem?_toArray, List.getElem?_cons_zero, List.getElem?_cons_succ]; rfl)
  case hi4 => (simp only [List.getElem?_toArray, List.getElem?_cons_zero, List.getElem?_cons_succ]; rfl)
  case b3 =>
    rw [if_pos (by rfl)]
    (obtain ⟨ND, hND0⟩ : ∃ n, V.heap.size = n := ⟨_, rfl⟩)
    (with_reducible refine s_mkb 512 (by decide) ND ?_ ?_ ?_ ?_)
    · exact hND0
    · exact rfl
    · exact rfl
    intro V2 hD hbc hz
    rw [← hND0] at hbc
    clear hz hND0
    have hH2 := hide (hHeld.bl hbc)
    replace hA := hA.bl hbc
    replace hb := hb.trans (hbc.mono (by have := hM.base; omega))
    replace hM := hM.bl hbc
    replace hI := hI.bl hbc
    replace hgr := hgr.bl hbc
    replace hNl := Nat.lt_of_lt_of_le hNl hbc.size
    clear hHeld hbc
    refine hK.out _ _ ?_ (fun hHeld => ?_)
    · exact hH2.out
    clear hK K
    clear hH2
    refine wpAnyH_ready (rs := [3, 7]) (by kernel_rfl) (by simp) ?_
    refine AllReadyH.cons (o := ?oi5) ?hi5 (fun K hK => ?b5) (AllReadyH.cons (o := ?oi6) ?hi6 (fun K hK => ?b6) AllReadyH.nil)
    case hi5 => (simp only [List.getElem?_toArray, List.getElem?_cons_zero, List.getElem?_cons_succ]; rfl)
    case hi6 => (simp only [List.getElem?_toArray, List.getElem?_cons_zero, List.getElem?_cons_succ]; rfl)
    case b5 =>
      rw [if_pos (by rfl)]
      go_simp
      (with_reducible refine (HFi.out _ _ _ _ _ _ _ hM hA hI hD).mono ?_)
      rintro e V4 ⟨v2, O3, rfl, hW3, hI2⟩
      have hH2 := hide (hW3.row hHeld hnr)
      (have hv2o := own_one hI2.row)
      replace hb := hb.trans (hW3.below.mono (by omega))
      replace hgr := hW3.row hgr hgo
      replace hNl := Nat.lt_of_lt_of_le hNl hW3.size
      (have hBl : B + 1 + 1 ≤ V4.heap.size := by omega)
      (obtain ⟨va2, vc2, rfl⟩ := in_none hI2)
      clear hM hA hI hD hW3 hHeld hI2
      go_simp
      refine hK.out _ _ ?_ (fun hHeld => ?_)
      · exact hH2.out
      clear hK K
      clear hH2
      refine tkO 4 (.tuple #[.agg (suT.c (.slice va2 0 vc2)), .nilIface]) (by simp only [gT, gZ, gS]; rfl) (puO (by (intro w hSw; (try dsimp only at hSw); go_simp))) ?_
      simp only [Act.put, pA, pZ, pS]
      refine tkO 5 (.agg (suT.c (.slice va2 0 vc2))) (by simp only [gT, gZ, gS]; rfl) (puO (by (intro w hSw; (try dsimp only at hSw); go_simp))) ?_
      simp only [Act.put, pA, pZ, pS]
      refine tkO 6 (.nilIface) (by simp only [gT, gZ, gS]; rfl) (puO (by (intro w hSw; (try dsimp only at hSw); go_simp))) ?_
      simp only [Act.put, pA, pZ, pS]
      refine skO 7 (by simp only [gT, gZ, gS]; rfl) (fun K hK => ?_)
      rw [if_pos (by rfl)]
      (obtain ⟨NT, hNT0⟩ : ∃ n, V4.heap.size = n := ⟨_, rfl⟩)
      (with_reducible refine s_alc NT ?_ (zeroBk.c nilS) zero_bk ?_)
      · exact hNT0
      intro V3 ht hbc hz
      rw [← hNT0] at hbc
      (have hNRT : NR < NT := hNT0 ▸ hNl)
      (have hgT : ga < NT := hNT0 ▸ hgr.lt)
      skip
      clear hz hNT0
      have hH2 := hide (hHeld.bl hbc)
      replace hb := hb.trans (hbc.mono (by omega))
      replace hgr := hgr.bl hbc
      replace hNl := Nat.lt_of_lt_of_le hNl hbc.size
      clear hHeld hbc
      refine hK.out _ _ ?_ (fun hHeld => ?_)
      · exact hH2.out
      clear hK K
      clear hH2
      refine skO 8 (by simp only [gT, gZ, gS]; rfl) (fun K hK => ?_)
      rw [if_pos (by rfl)]
      (with_reducible refine s_bk NT _ _ suT (.slice va2 0 vc2) hv2o ht ?_ ?_ ?_)
      · exact rfl
      · exact rfl
      intro V5 hnew hoo
      have hH2 := hide (hHeld.only hoo (by omega))
      replace hgr := hgr.only hoo (by omega)
      replace hb := hoo.bel _ _ (by omega) hb
      (have ht := hnew)
      clear hHeld hoo hnew
      refine hK.out _ _ ?_ (fun hHeld => ?_)
      · exact hH2.out
      clear hK K
      clear hH2
      refine tkO 9 (.nilIface) (by simp only [gT, gZ, gS]; rfl) (puO (by (intro w hSw; (try dsimp only at hSw); go_simp))) ?_
      simp only [Act.put, pA, pZ, pS]
      refine wpAnyH_done (by kernel_rfl) ?_ _
      go_simp
      go_wp2_with (first | ((with_reducible refine ldc_u32 ga 2 _ cur _ hgr k2 ?_ ?_ ?_); exact rfl; exact rfl) | ((with_reducible refine ldc_int ga 3 _ cur _ hgr k3 ?_ ?_ ?_); exact rfl; exact rfl) | ((with_reducible refine ldc_bool ga 1 _ cur _ hgr k1 ?_ ?_ ?_); exact rfl; exact rfl) | ((with_reducible refine ld_bin NR suS _ _ hHeld ?_ ?_ ?_); exact rfl; exact rfl) | ((with_reducible refine ld_bin NT suT _ _ ht ?_ ?_ ?_); exact rfl; exact rfl) | ((with_reducible refine ldc_u32 NT 4 1 _ _ ht rfl ?_ ?_ ?_); exact rfl; exact rfl))
      go_ret
      exact ⟨rfl, hb⟩
    case b6 =>
      rw [if_pos (by rfl)]
      (obtain ⟨NT, hNT0⟩ : ∃ n, V2.heap.size = n := ⟨_, rfl⟩)
      (with_reducible refine s_alc NT ?_ (zeroBk.c nilS) zero_bk ?_)
      · exact hNT0
      intro V3 ht hbc hz
      rw [← hNT0] at hbc
      (have hNRT : NR < NT := hNT0 ▸ hNl)
      (have hgT : ga < NT := hNT0 ▸ hgr.lt)
      (have hnt : ¬ O2 NT := fun e => absurd (hM.lt _ e) (by omega))
      clear hz hNT0
      have hH2 := hide (hHeld.bl hbc)
      replace hA := hA.bl hbc
      replace hb := hb.trans (hbc.mono (by have := hM.base; omega))
      replace hM := hM.bl hbc
      replace hI := hI.bl hbc
      replace hgr := hgr.bl hbc
      replace hNl := Nat.lt_of_lt_of_le hNl hbc.size
      replace hD := own_bel hD hbc
      clear hHeld hbc
      refine hK.out _ _ ?_ (fun hHeld => ?_)
      · exact hH2.out
      clear hK K
      clear hH2
      refine skO 3 (by simp only [gT, gZ, gS]; rfl) (fun K hK => ?_)
      rw [if_pos (by rfl)]
      go_simp
      (with_reducible refine (HFi.out _ _ _ _ _ _ _ hM hA hI hD).mono ?_)
      rintro e V4 ⟨v2, O3, rfl, hW3, hI2⟩
      have hH2 := hide (hW3.row hHeld hnr)
      (have hv2o := own_one hI2.row)
      replace ht := hW3.row ht hnt
      replace hb := hb.trans (hW3.below.mono (by omega))
      replace hgr := hW3.row hgr hgo
      replace hNl := Nat.lt_of_lt_of_le hNl hW3.size
      (have hBl : B + 1 + 1 ≤ V4.heap.size := by omega)
      (obtain ⟨va2, vc2, rfl⟩ := in_none hI2)
      clear hM hA hI hD hW3 hHeld hI2
      go_simp
      refine hK.out _ _ ?_ (fun hHeld => ?_)
      · exact hH2.out
      clear hK K
      clear hH2
      refine tkO 4 (.tuple #[.agg (suT.c (.slice va2 0 vc2)), .nilIface]) (by simp only [gT, gZ, gS]; rfl) (puO (by (intro w hSw; (try dsimp only at hSw); go_simp))) ?_
      simp only [Act.put, pA, pZ, pS]
      refine tkO 5 (.agg (suT.c (.slice va2 0 vc2))) (by simp only [gT, gZ, gS]; rfl) (puO (by (intro w hSw; (try dsimp only at hSw); go_simp))) ?_
      simp only [Act.put, pA, pZ, pS]
      refine tkO 6 (.nilIface) (by simp only [gT, gZ, gS]; rfl) (puO (by (intro w hSw; (try dsimp only at hSw); go_simp))) ?_
      simp only [Act.put, pA, pZ, pS]
      refine skO 8 (by simp only [gT, gZ, gS]; rfl) (fun K hK => ?_)
      rw [if_pos (by rfl)]
      (with_reducible refine s_bk NT _ _ suT (.slice va2 0 vc2) hv2o ht ?_ ?_ ?_)
      · exact rfl
      · exact rfl
      intro V5 hnew hoo
      have hH2 := hide (hHeld.only hoo (by omega))
      replace hgr := hgr.only hoo (by omega)
      replace hb := hoo.bel _ _ (by omega) hb
      (have ht := hnew)
      clear hHeld hoo hnew
      refine hK.out _ _ ?_ (fun hHeld => ?_)
      · exact hH2.out
      clear hK K
      clear hH2
      refine tkO 9 (.nilIface) (by simp only [gT, gZ, gS]; rfl) (puO (by (intro w hSw; (try dsimp only at hSw); go_simp))) ?_
      simp only [Act.put, pA, pZ, pS]
      refine wpAnyH_done (by kernel_rfl) ?_ _
      go_simp
      go_wp2_with (first | ((with_reducible refine ldc_u32 ga 2 _ cur _ hgr k2 ?_ ?_ ?_); exact rfl; exact rfl) | ((with_reducible refine ldc_int ga 3 _ cur _ hgr k3 ?_ ?_ ?_); exact rfl; exact rfl) | ((with_reducible refine ldc_bool ga 1 _ cur _ hgr k1 ?_ ?_ ?_); exact rfl; exact rfl) | ((with_reducible refine ld_bin NR suS _ _ hHeld ?_ ?_ ?_); exact rfl; exact rfl) | ((with_reducible refine ld_bin NT suT _ _ ht ?_ ?_ ?_); exact rfl; exact rfl) | ((with_reducible refine ldc_u32 NT 4 1 _ _ ht rfl ?_ ?_ ?_); exact rfl; exact rfl))
      go_ret
      exact ⟨rfl, hb⟩
  case b4 =>
    rw [if_pos (by rfl)]
    (obtain ⟨NT, hNT0⟩ : ∃ n, V.heap.size = n := ⟨_, rfl⟩)
    (with_reducible refine s_alc NT ?_ (zeroBk.c nilS) zero_bk ?_)
    · exact hNT0
    intro V3 ht hbc hz
    rw [← hNT0] at hbc
    (have hNRT : NR < NT := hNT0 ▸ hNl)
    (have hgT : ga < NT := hNT0 ▸ hgr.lt)
    (have hnt : ¬ O2 NT := fun e => absurd (hM.lt _ e) (by omega))
    clear hz hNT0
    have hH2 := hide (hHeld.bl hbc)
    replace hA := hA.bl hbc
    replace hb := hb.trans (hbc.mono (by have := hM.base; omega))
    replace hM := hM.bl hbc
    replace hI := hI.bl hbc
    replace hgr := hgr.bl hbc
    replace hNl := Nat.lt_of_lt_of_le hNl hbc.size
    clear hHeld hbc
    refine hK.out _ _ ?_ (fun hHeld => ?_)
    · exact hH2.out
    clear hK K
    clear hH2
    refine skO 2 (by simp only [gT, gZ, gS]; rfl) (fun K hK => ?_)
    rw [if_pos (by rfl)]
    (obtain ⟨ND, hND0⟩ : ∃ n, V3.heap.size = n := ⟨_, rfl⟩)
    (with_reducible refine s_mkb 512 (by decide) ND ?_ ?_ ?_ ?_)
    · exact hND0
    · exact rfl
    · exact rfl
    intro V2 hD hbc hz
    rw [← hND0] at hbc
    clear hz hND0
    have hH2 := hide (hHeld.bl hbc)
    replace hA := hA.bl hbc
    replace hb := hb.trans (hbc.mono (by have := hM.base; omega))
    replace hM := hM.bl hbc
    replace hI := hI.bl hbc
    replace hgr := hgr.bl hbc
    replace hNl := Nat.lt_of_lt_of_le hNl hbc.size
    replace ht := ht.bl hbc
    clear hHeld hbc
    refine hK.out _ _ ?_ (fun hHeld => ?_)
    · exact hH2.out
    clear hK K
    clear hH2
    refine skO 3 (by simp only [gT, gZ, gS]; rfl) (fun K hK => ?_)
    rw [if_pos (by rfl)]
    go_simp
    (with_reducible refine (HFi.out _ _ _ _ _ _ _ hM hA hI hD).mono ?_)
    rintro e V4 ⟨v2, O3, rfl, hW3, hI2⟩
    have hH2 := hide (hW3.row hHeld hnr)
    (have hv2o := own_one hI2.row)
    replace ht := hW3.row ht hnt
    replace hb := hb.trans (hW3.below.mono (by omega))
    replace hgr := hW3.row hgr hgo
    replace hNl := Nat.lt_of_lt_of_le hNl hW3.size
    (have hBl : B + 1 + 1 ≤ V4.heap.size := by omega)
    (obtain ⟨va2, vc2, rfl⟩ := in_none hI2)
    clear hM hA hI hD hW3 hHeld hI2
    go_simp
    refine hK.out _ _ ?_ (fun hHeld => ?_)
    · exact hH2.out
    clear hK K
    clear hH2
    refine tkO 4 (.tuple #[.agg (suT.c (.slice va2 0 vc2)), .nilIface]) (by simp only [gT, gZ, gS]; rfl) (puO (by (intro w hSw; (try dsimp only at hSw); go_simp))) ?_
    simp only [Act.put, pA, pZ, pS]
    refine tkO 5 (.agg (suT.c (.slice va2 0 vc2))) (by simp only [gT, gZ, gS]; rfl) (puO (by (intro w hSw; (try dsimp only at hSw); go_simp))) ?_
    simp only [Act.put, pA, pZ, pS]
    refine tkO 6 (.nilIface) (by simp only [gT, gZ, gS]; rfl) (puO (by (intro w hSw; (try dsimp only at hSw); go_simp))) ?_
    simp only [Act.put, pA, pZ, pS]
    refine skO 8 (by simp only [gT, gZ, gS]; rfl) (fun K hK => ?_)
    rw [if_pos (by rfl)]
    (with_reducible refine s_bk NT _ _ suT (.slice va2 0 vc2) hv2o ht ?_ ?_ ?_)
    · exact rfl
    · exact rfl
    intro V5 hnew hoo
    have hH2 := hide (hHeld.only hoo (by omega))
    replace hgr := hgr.only hoo (by omega)
    replace hb := hoo.bel _ _ (by omega) hb
    (have ht := hnew)
    clear hHeld hoo hnew
    refine hK.out _ _ ?_ (fun hHeld => ?_)
    · exact hH2.out
    clear hK K
    clear hH2
    refine tkO 9 (.nilIface) (by simp only [gT, gZ, gS]; rfl) (puO (by (intro w hSw; (try dsimp only at hSw); go_simp))) ?_
    simp only [Act.put, pA, pZ, pS]
    refine wpAnyH_done (by kernel_rfl) ?_ _
    go_simp
    go_wp2_with (first | ((with_reducible refine ldc_u32 ga 2 _ cur _ hgr k2 ?_ ?_ ?_); exact rfl; exact rfl) | ((with_reducible refine ldc_int ga 3 _ cur _ hgr k3 ?_ ?_ ?_); exact rfl; exact rfl) | ((with_reducible refine ldc_bool ga 1 _ cur _ hgr k1 ?_ ?_ ?_); exact rfl; exact rfl) | ((with_reducible refine ld_bin NR suS _ _ hHeld ?_ ?_ ?_); exact rfl; exact rfl) | ((with_reducible refine ld_bin NT suT _ _ ht ?_ ?_ ?_); exact rfl; exact rfl) | ((with_reducible refine ldc_u32 NT 4 1 _ _ ht rfl ?_ ?_ ?_); exact rfl; exact rfl))
    go_ret
    exact ⟨rfl, hb⟩
end Go.Proofs.YtaaiockiojejeaaGreatDoor
namespace Go.Proofs.YtaaiockiojejeaaGreatDoor
open Go.RowKit
set_option linter.unusedVariables false
set_option linter.unusedSimpArgs false

def fulN (bl : List Nat) (i j : Nat) : Nat := if j < i then (bl[j]?).getD 0 else 0
def fulC (bl : List Nat) (i : Nat) : Array Value := ((List.range 512).map fun j => Value.int .u8 ((fulN bl i j : Nat) : Int)).toArray
def fulL (bl : List Nat) : List Nat := (List.range 512).map fun j => (bl[j]?).getD 0
variable {ops : Array Oper} {rest : List Oper} {dst : Option Tmp} {ty t t2 : TypeId} {pos : String} {after : Array Edge} {a : Act} {w : World} {Q : Exit → Act → World → Prop} {K : Act → World → Prop} {x y : Operand} {gd : Option (Nat × Bool)} {S : World → Prop}
end Go.Proofs.YtaaiockiojejeaaGreatDoor
