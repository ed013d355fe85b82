/-
  The law's laid and sure.
-/
import Derived.Test.YtghpjibjhaomoaaGreatDoorJRiEq
import Derived.Test.YtghpjibjhaomoaaGreatDoorJRiBoth
namespace Go.Proofs.YtghpjibjhaomoaaGreatDoor
open Go.RowKit
set_option linter.unusedVariables false
set_option linter.unusedSimpArgs false

attribute [local go_sem] Rg.at0 Rg.at1 Rg.at2 Rg.at3 Rg.at4 Rg.at5
def sG : Nat → Nat → Nat
  | 0, 0 => 0 | 0, _ => 2147484416 | 1, 0 => 8 | 1, _ => 5 | 2, 0 => 256 | 2, _ => 65536 | _, 0 => 768 | _, _ => 1684234849
def sF : Nat → Nat := laidW sG 4
def sR : Rg := ⟨4, 2147483648, 2147483904, 2147484160, 0, 0⟩
def sR1 : Rg := ⟨4, 2147483648, 2147483904, 2147484160, 1, 0⟩
def sS : Sg := ⟨2147484416, 5, false⟩
theorem sR_ok : sR.Ok := ⟨by decide, by decide, by decide, by decide, by decide, by decide, by decide⟩
theorem sR1_ok : sR1.Ok := ⟨by decide, by decide, by decide, by decide, by decide, by decide, by decide⟩
theorem sR_chk : chkR sR = true := by kernel_rfl
theorem sR1_chk : chkR sR1 = true := by kernel_rfl
theorem s_taken : takenR sR = sR1 := by kernel_rfl
theorem s_cnt : numF sF (plM (avC sR)) 2 = 1 := by kernel_rfl
theorem s_head : numF sF (plM (avH sR)) 2 = 0 := by kernel_rfl
def sD : Nat → Nat := dscAt sF sR1 0
theorem s_fol : followV 2 sF sR1 4 0 = some [sD] := by kernel_rfl
theorem s_odd : oddL 2 0 false [sD] = false := by kernel_rfl
theorem s_sg : sgOf sD = sS := by kernel_rfl
theorem s_par : partsV false 9223372036854775807 [sS] = [sS] := by kernel_rfl
theorem s_in : [sS].all (inS 2) = true := by kernel_rfl
theorem s_gat : gathF sF [sS] = [97, 98, 99, 100, 0] := by kernel_rfl
theorem s_txt : ((txtR [97, 98, 99, 100, 0]).toList == [97, 98, 99, 100, 0]) = true := by kernel_rfl
theorem sS_ok : sS.Ok := ⟨by decide, by decide, by decide⟩
set_option maxHeartbeats 1000000 in
theorem laid_any (w : World) : Calls Tryz.prog 34 #[] w fun e w' => e = .returned (.agg sR.cells) ∧ Below w.heap.size w w' := by
  go_enter Tryz.func34, Tryz.ntmps34
  go_wp2_with (first | ((with_reducible refine al_rp w.heap.size ?_ ?_); exact rfl; intro W hq hb hz) | ((with_reducible refine st_rp w.heap.size _ sR hq ?_ ?_ ?_); exact rfl; exact rfl; intro W hnew ho; replace hb := ho.bel _ _ (Nat.le_refl _) hb; replace hq := hnew))
  refine bodyPost_ret (results_cell_row Tryz.results34 _ _ w.heap.size _ _ _ _ rfl hq Tryz.underlying34 rfl size_rp) rfl ?_
  exact ⟨rfl, hb⟩
variable {ops : Array Oper} {rest : List Oper} {dst : Option Tmp} {ty : TypeId} {pos : String} {after : Array Edge} {a : Act} {w : World} {Q : Exit → Act → World → Prop}
def sC : Array Value := #[.int .u32 0, .int .u32 2147484416, .int .u32 8, .int .u32 5, .int .u32 256, .int .u32 65536, .int .u32 768, .int .u32 1684234849]
theorem bs_p (N : Nat) (hN : w.heap.size = N) (x0 x1 x2 x3 : Operand) (h0 : a.eval x0 = .agg #[.int .u32 0, .int .u32 2147484416]) (h1 : a.eval x1 = .agg #[.int .u32 8, .int .u32 5]) (h2 : a.eval x2 = .agg #[.int .u32 256, .int .u32 65536]) (h3 : a.eval x3 = .agg #[.int .u32 768, .int .u32 1684234849])
    (k : ∀ W, RowAt W N sC 78 → Below N w W → Hid (W.heap.size = N + 1) → wpList Tryz.prog ops Q rest (a.put dst (.slice (some ⟨N, 0, none⟩) 4 4)) W) :
    wpList Tryz.prog ops Q (⟨dst, .buildSlice 26 4 #[(0, x0), (1, x1), (2, x2), (3, x3)], ty, pos, after, none⟩ :: rest) a w :=
  op_bsn 26 78 4 Tryz.underlying26 sC N hN [(0, .agg #[.int .u32 0, .int .u32 2147484416]), (1, .agg #[.int .u32 8, .int .u32 5]), (2, .agg #[.int .u32 256, .int .u32 65536]), (3, .agg #[.int .u32 768, .int .u32 1684234849])] (by simp [h0, h1, h2, h3]) ⟨by kernel_rfl⟩ k
theorem pairs_s {W : World} {N B : Nat} (h : RowAt W N sC 78) (hB : N < B) : PairsAt W B (some ⟨N, 0, none⟩) 4 sG := by
  refine ⟨fun j hj => ⟨N, 0, rfl, hB, ?_, ?_⟩, fun j hj => ?_⟩
  · rw [h.cell]; rcases j with _ | _ | _ | _ | j <;> first | rfl | omega
  · rw [h.cell]; rcases j with _ | _ | _ | _ | j <;> first | rfl | omega
  · rcases j with _ | _ | _ | _ | j <;> first | (constructor <;> decide) | omega
set_option maxRecDepth 20000 in
set_option maxHeartbeats 2000000 in
theorem rsure_any (w : World) (hA : AreasAt w) : Calls Tryz.prog 13 #[] w fun e w' => e = .returned (.bool true) ∧ Below w.heap.size w w' := by
  obtain ⟨B, hB⟩ : ∃ B, w.heap.size = B := ⟨_, rfl⟩
  have hG0 : 1 < B := hB ▸ hA.lt
  have hG : 1 < B + 1 + 1 := by omega
  have hA0 := hA
  rw [hB]
  have HBo : Hid (∀ W, W.heap.size = B + 1 → RowAt W B sC 78 → Calls Tryz.prog 7 #[.slice (some ⟨B, 0, none⟩) 4 4] W fun e w' => ∃ b O r, e = .returned (.tuple #[.pointer (some ⟨b, 0, none⟩), .agg (RP.v r 8192 2)]) ∧ RamB w' (B + 1 + 1) b 2 sF 80 O ∧ Below (B + 1) W w') := hide (fun W hz hr => by
    have h := rboth_any (some ⟨B, 0, none⟩) 4 4 sG W (pairs_s hr (by omega)) (by decide) (by decide)
    rw [hz] at h
    exact h.mono (by
      rintro e w' ⟨b, f, O, r, hf, he, h1, _, h3⟩
      rw [hf] at h1
      exact ⟨b, O, r, he, h1, h3⟩))
  have HLa := hide laid_any
  have HNx : Hid (∀ W O1 b, RamB W (B + 1 + 1) b 2 sF 80 O1 → AreasAt W → Calls Tryz.prog 8 #[.agg sR.cells, .pointer (some ⟨b, 0, none⟩)] W fun e w' => e = .returned (.tuple #[.agg sR1.cells, .int .i64 0, .bool true, .nilIface]) ∧ ∃ O', RamB w' (B + 1 + 1) b 2 sF 80 O' ∧ Went (B + 1 + 1) O1 O' W w') := hide (fun W O1 b hM hA => by
    have h := next_took sR sR_ok sR_chk hM hA hG (by kernel_rfl) (by rw [s_cnt]; decide) (by rw [s_cnt]; decide) (by kernel_rfl) (by rw [s_head]; decide)
    rw [s_head, s_taken] at h
    exact h)
  have HWk : Hid (∀ W O1 b, RamB W (B + 1 + 1) b 2 sF 80 O1 → AreasAt W → Calls Tryz.prog 14 #[.agg sR1.cells, .pointer (some ⟨b, 0, none⟩), .int .i64 0] W fun e w' => ∃ O' v, e = .returned (.tuple #[v, .nilIface]) ∧ RamB w' (B + 1 + 1) b 2 sF 80 O' ∧ Went (B + 1 + 1) O1 O' W w' ∧ w'.ownsRow W.heap.size 70 3 v 1 (segL [sS]) ∧ ∀ g, v.ownBlock = some g → ¬ O' g) := hide (fun W O1 b hM hA => by
    have h := walk_ok sR1 sR1_ok sR1_chk 0 hM hA hG [sD] s_fol s_odd
    rw [show [sD].map sgOf = [sS] from by rw [List.map_cons, s_sg]; rfl] at h
    exact h)
  have HGa : Hid (∀ W O1 b v Bl, RamB W (B + 1 + 1) b 2 sF 80 O1 → AreasAt W → W.ownsRow Bl 70 3 v 1 (segL [sS]) → Calls Tryz.prog 16 #[.pointer (some ⟨b, 0, none⟩), v] W fun e w' => ∃ O' v', e = .returned (.tuple #[v', .nilIface]) ∧ RamB w' (B + 1 + 1) b 2 sF 80 O' ∧ Went (B + 1 + 1) O1 O' W w' ∧ w'.ownsRow W.heap.size 5 1 v' 5 (byteV [97, 98, 99, 100, 0]) ∧ ∀ g, v'.ownBlock = some g → ¬ O' g) := hide (fun W O1 b v Bl hM hA hL => by
    have h := gath_ok [sS] (by decide) (fun s hs => by obtain rfl := List.mem_singleton.1 hs; exact sS_ok) hM hA hG hL (by rw [s_par]; exact s_in)
    rw [s_par, s_gat] at h
    exact h)
  have heq : eqS sS sS = true := eqS_self sS
  have htx := s_txt
  clear hA
  go_enter Tryz.func13, Tryz.ntmps13
  go_wp2_with (first | ((with_reducible refine bs_p B ?_ _ _ _ _ ?_ ?_ ?_ ?_ ?_); exact hB; exact rfl; exact rfl; exact rfl; exact rfl; intro W hq hb hz) | (go_at_call 7; (with_reducible refine (HBo.out _ hz.out hq).mono ?_); rintro e W1 ⟨b, O, r, rfl, hM, hbc⟩; replace hb := hb.trans (hbc.mono (by omega)); have hA := hA0.bl (hB ▸ hb); obtain ⟨NX, hNX0⟩ : ∃ n, W1.heap.size = n := ⟨_, rfl⟩; have hNX := hide hNX0; have hNB : B + 1 + 1 ≤ NX := hNX0 ▸ hM.base; have hnx : ¬ O NX := (fun e => absurd (hM.lt _ e) (by omega)); clear hNX0 hbc hq hz) | ((with_reducible refine al_Rz NX ?_ ?_); exact hNX.out; intro W hx hb' hz2; have hbc : Below W1.heap.size W1 W := (by rw [hNX.out]; exact hb'); replace hb := hb.trans (hb'.mono (by omega)); replace hM := hM.bl hbc; replace hA := hA.bl hbc; clear hb' hbc) | ((with_reducible refine st_R NX _ r 8192 2 hx ?_ ?_ ?_ ?_); exact rfl; exact rfl; exact rfl; intro W hnew hoo; replace hM := hM.only hoo hnx; replace hA := hA.onlyR hoo (by omega); replace hb := hoo.bel _ _ (by omega) hb; clear hnew hoo hx) | (go_at_call 34; (with_reducible refine (HLa.out _).mono ?_); rintro e W ⟨rfl, hbc⟩; replace hb := hb.trans (hbc.mono (by have := hM.base; omega)); replace hM := hM.bl hbc; replace hA := hA.bl hbc; clear hbc) | (go_at_call 8; (with_reducible refine (HNx.out _ _ _ hM hA).mono ?_); rintro e W2 ⟨rfl, O2, hM2, hW2⟩; replace hb := hb.trans (hW2.below.mono (by omega)); replace hA := hA.wentR hG hW2; replace hM := hM2; clear hM2 hW2; obtain ⟨NR, hNR0⟩ : ∃ n, W2.heap.size = n := ⟨_, rfl⟩; have hNR := hide hNR0; have hRB : B + 1 + 1 ≤ NR := hNR0 ▸ hM.base; have hnr : ¬ O2 NR := (fun e => absurd (hM.lt _ e) (by omega)); clear hNR0) | ((with_reducible refine al_rp NR ?_ ?_); exact hNR.out; intro W hr hb' hz2; have hbc : Below W2.heap.size W2 W := (by rw [hNR.out]; exact hb'); replace hb := hb.trans (hb'.mono (by omega)); replace hM := hM.bl hbc; replace hA := hA.bl hbc; clear hb' hbc) | ((with_reducible refine st_rp NR _ sR1 hr ?_ ?_ ?_); exact rfl; exact rfl; intro W hnew hoo; replace hM := hM.only hoo hnr; replace hA := hA.onlyR hoo (by omega); replace hb := hoo.bel _ _ (by omega) hb; replace hr := hnew; clear hnew hoo) | ((with_reducible refine ld_rp NR sR1 hr ?_ ?_ ?_); exact rfl; exact rfl) | (go_at_call 14; (with_reducible refine (HWk.out _ _ _ hM hA).mono ?_); rintro e W3 ⟨O3, v3, rfl, hM3, hW3, hL, hLn⟩; replace hb := hb.trans (hW3.below.mono (by omega)); replace hA := hA.wentR hG hW3; replace hM := hM3; clear hM3 hW3 hr; obtain ⟨gs, cs, cur, rfl, _, _, _, hLr, _, htk⟩ := own_row hL (by decide); have hgn := hLn gs rfl; have hmid := mid_s (k := 0) htk rfl) | (go_at_call 16; (with_reducible refine (HGa.out _ _ _ _ _ hM hA hL).mono ?_); rintro e W4 ⟨O4, v4, rfl, hM4, hW4, hV, hVn⟩; replace hb := hb.trans (hW4.below.mono (by omega)); replace hLr := hW4.row hLr hgn; have hcv := conv_own (l := [97, 98, 99, 100, 0]) (by decide) hV; obtain ⟨va, vc, rfl, _, _⟩ := own_form hV; clear hM hM4 hW4 hL hA) | ((with_reducible refine ld_smg gs 0 sS cur _ hLr hmid ?_ ?_ ?_); exact rfl; exact rfl) | ((with_reducible refine g_eqs sS sS ?_ ?_ ?_ ?_); exact rfl; exact rfl; exact rfl; (try rw [heq])))
  go_ret
  exact ⟨rfl, hb⟩
end Go.Proofs.YtghpjibjhaomoaaGreatDoor
