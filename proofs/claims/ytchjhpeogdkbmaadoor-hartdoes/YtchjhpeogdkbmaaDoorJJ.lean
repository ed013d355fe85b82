/-
  What the document's control answers, at two of the six.
-/
import Derived.Test.YtchjhpeogdkbmaaDoorTk
import Derived.Test.YtchjhpeogdkbmaaDoorJF
namespace Go.Proofs.YtchjhpeogdkbmaaDoor
open Go.RowKit
set_option linter.unusedVariables false

attribute [local go_sem] I6.c1 I6.c2 I6.c5

set_option maxHeartbeats 1000000 in
theorem rctl_1A (h : H) (ok : h.Ok) (op s2 im cs : Int) (rd s1 : Nat) (hrd : rd < 32) (h1 : s1 < 32) (v l : Nat) (hv : v < 4294967296) (hl : l < 4294967296) (hR : readN h.c cs l = none) (w : World) :
    Calls Tryd.prog 36 #[.agg h.cells, .agg (I6.cells ⟨op, (rd : Nat), (s1 : Nat), s2, im, cs⟩), .int .i64 1, .int .u32 v, .int .u32 l] w fun e w' => e = .returned (.agg (trapH h 2 v).cells) ∧ Below w.heap.size w w' := by
  have b1 : (0 : Int) ≤ s1 := by omega
  have b2 : (s1 : Int) < 32 := by omega
  have b3 : ((s1 : Nat) : Int) % 4294967296 = s1 := by omega
  have HR := hide (fun w => rread_any h.c ok.c cs l hl w)
  rw [hR] at HR
  simp only [readR] at HR
  clear hR
  have HX2 := hide (fun w => rtrap8 h ok 2 v (by decide) w)
  rw [show (((2 : Nat) : Int)) = 2 from rfl] at HX2
  go_enter Tryd.func36, Tryd.ntmps36
  go_wp2_with (first | ((with_reducible refine bx_g w.heap.size h ?_ ?_ ?_); exact rfl; exact rfl; intro W hr hb hz) | ((with_reducible refine bx_ri (w.heap.size + 1) ⟨op, (rd : Nat), (s1 : Nat), s2, im, cs⟩ ?_ ?_ ?_); exact hz.out; exact rfl; intro W hi hb' hz'; obtain ⟨hr, hb⟩ := an1 hz hb' hr hb; replace hz := hz') | ((with_reducible refine al_g (w.heap.size + 2) ?_ ?_); exact hz.out; intro W hq hb' hz'; obtain ⟨hr, hi, hb⟩ := an2 hz hb' hr hi hb; replace hz := hz'; have fi := hi.cell) | ((with_reducible refine ld_gxr w.heap.size s1 _ h1 hr ?_ ?_); exact rfl) | ((with_reducible refine ld_gc w.heap.size _ hr ?_ ?_); exact rfl) | ((with_reducible refine ld_g w.heap.size _ hr ?_ ?_); exact rfl) | ((with_reducible refine ld_gpc w.heap.size _ hr ?_ ?_); exact rfl) | (clear fi; go_at_call 71; refine (HR.out _).mono ?_; rintro e W ⟨rfl, hbc⟩; obtain ⟨hr, hi, hq, hb⟩ := bl3 hbc hr hi hq hb; have fi := hi.cell; obtain ⟨NI, hNI⟩ : ∃ n, W.heap.size = n := ⟨_, rfl⟩; have lNI : w.heap.size + 3 ≤ NI := (by (have := hq.lt; omega)); replace hNI := hide hNI) | (clear fi; go_at_call 29; refine (HX2.out _).mono ?_; rintro e W ⟨rfl, hbc⟩; obtain ⟨hr, hi, hq, hb⟩ := bl3 hbc hr hi hq hb) | ((with_reducible refine st_g (w.heap.size + 2) _ (trapH h 2 v) hq ?_ ?_ ?_); exact rfl; exact rfl; intro W hnew ho; obtain ⟨hr, hi, hb⟩ := on2 ho hr hi hb; replace hq := hnew))
  refine bodyPost_ret (results_cell_row Tryd.results36 _ _ (w.heap.size + 2) _ _ _ _ rfl hq Tryd.underlying28 rfl size_g) rfl ?_
  exact ⟨rfl, hb⟩

set_option maxHeartbeats 1000000 in
theorem rctl_1Bs (h : H) (ok : h.Ok) (op s2 im cs : Int) (rd s1 : Nat) (hrd : rd < 32) (h1 : s1 < 32) (v l : Nat) (hv : v < 4294967296) (hl : l < 4294967296) (old : Nat) (hold : old < 4294967296) (hR : readN h.c cs l = some old) (h0 : s1 ≠ 0) (c : S8) (e : Nat) (hW : writeN h.c cs (mixN 52 old (h.x s1)) = (c, e + 1)) (w : World) :
    Calls Tryd.prog 36 #[.agg h.cells, .agg (I6.cells ⟨op, (rd : Nat), (s1 : Nat), s2, im, cs⟩), .int .i64 1, .int .u32 v, .int .u32 l] w fun e w' => e = .returned (.agg (trapH h 2 v).cells) ∧ Below w.heap.size w w' := by
  have b1 : (0 : Int) ≤ s1 := by omega
  have b2 : (s1 : Int) < 32 := by omega
  have b3 : ((s1 : Nat) : Int) % 4294967296 = s1 := by omega
  have HR := hide (fun w => rread_any h.c ok.c cs l hl w)
  rw [hR] at HR
  simp only [readR] at HR
  clear hR
  have t2 : ((s1 : Int) != 0) = true := by simp; omega
  clear h0
  have hv0 : (h.x s1) < 4294967296 := ok.x s1
  have EX : ((mixN 52 old (h.x s1) : Nat) : Int) = bits .or .u32 (old : Int) (((h.x s1) : Nat) : Int) := (u32_or_nat old (h.x s1) hold hv0).symm
  have HW := hide (fun w => rwrite_any h.c ok.c cs (mixN 52 old (h.x s1)) (mixR_lt 52 hold hv0) w)
  rw [hW, EX] at HW
  have t3 : (((e + 1 : Nat) : Int) != 0) = true := by simp; omega
  clear hW
  have HX2 := hide (fun w => rtrap8 h ok 2 v (by decide) w)
  rw [show (((2 : Nat) : Int)) = 2 from rfl] at HX2
  go_enter Tryd.func36, Tryd.ntmps36
  go_wp2_with (first | ((with_reducible refine bx_g w.heap.size h ?_ ?_ ?_); exact rfl; exact rfl; intro W hr hb hz) | ((with_reducible refine bx_ri (w.heap.size + 1) ⟨op, (rd : Nat), (s1 : Nat), s2, im, cs⟩ ?_ ?_ ?_); exact hz.out; exact rfl; intro W hi hb' hz'; obtain ⟨hr, hb⟩ := an1 hz hb' hr hb; replace hz := hz') | ((with_reducible refine al_g (w.heap.size + 2) ?_ ?_); exact hz.out; intro W hq hb' hz'; obtain ⟨hr, hi, hb⟩ := an2 hz hb' hr hi hb; replace hz := hz'; have fi := hi.cell) | ((with_reducible refine ld_gxr w.heap.size s1 _ h1 hr ?_ ?_); exact rfl) | ((with_reducible refine ld_gc w.heap.size _ hr ?_ ?_); exact rfl) | ((with_reducible refine ld_g w.heap.size _ hr ?_ ?_); exact rfl) | ((with_reducible refine ld_gpc w.heap.size _ hr ?_ ?_); exact rfl) | (clear fi; go_at_call 71; refine (HR.out _).mono ?_; rintro e W ⟨rfl, hbc⟩; obtain ⟨hr, hi, hq, hb⟩ := bl3 hbc hr hi hq hb; have fi := hi.cell; obtain ⟨NI, hNI⟩ : ∃ n, W.heap.size = n := ⟨_, rfl⟩; have lNI : w.heap.size + 3 ≤ NI := (by (have := hq.lt; omega)); replace hNI := hide hNI) | ((with_reducible refine al_gs NI ?_ ?_); exact hNI.out; intro W hs hb' hz'; clear fi; replace hr := hr.bl (hNI.out ▸ hb'); replace hi := hi.bl (hNI.out ▸ hb'); replace hq := hq.bl (hNI.out ▸ hb'); have fi := hi.cell; replace hb := hb.trans (hb'.mono (by omega))) | ((with_reducible refine st_gs NI _ h.c hs ?_ ?_ ?_); exact rfl; exact rfl; intro W hnew ho; clear fi; replace hr := hr.only ho (by omega); replace hi := hi.only ho (by omega); replace hq := hq.only ho (by omega); replace hs := hnew; have fi := hi.cell; replace hb := ho.bel _ _ (by omega) hb) | (clear fi; go_at_call 72; refine (HW.out _).mono ?_; rintro e W ⟨rfl, hbc⟩; obtain ⟨hr, hi, hq, hs, hb⟩ := bl4 hbc hr hi hq hs hb; have fi := hi.cell; obtain ⟨NJ, hNJ⟩ : ∃ n, W.heap.size = n := ⟨_, rfl⟩; have lNJ : NI + 1 ≤ NJ := (by (have := hs.lt; omega)); replace hNJ := hide hNJ) | ((with_reducible refine al_gs NJ ?_ ?_); exact hNJ.out; intro W ht hb' hz'; clear fi; replace hr := hr.bl (hNJ.out ▸ hb'); replace hi := hi.bl (hNJ.out ▸ hb'); replace hq := hq.bl (hNJ.out ▸ hb'); replace hs := hs.bl (hNJ.out ▸ hb'); have fi := hi.cell; replace hb := hb.trans (hb'.mono (by omega))) | ((with_reducible refine st_gs NJ _ c ht ?_ ?_ ?_); exact rfl; exact rfl; intro W hnew ho; clear fi; replace hr := hr.only ho (by omega); replace hi := hi.only ho (by omega); replace hq := hq.only ho (by omega); replace hs := hs.only ho (by omega); replace ht := hnew; have fi := hi.cell; replace hb := ho.bel _ _ (by omega) hb) | ((with_reducible refine ld_gs NJ _ ht ?_ ?_); exact rfl) | ((with_reducible refine st_gs NI _ c hs ?_ ?_ ?_); exact rfl; exact rfl; intro W hnew ho; clear fi; replace hr := hr.only ho (by omega); replace hi := hi.only ho (by omega); replace hq := hq.only ho (by omega); replace ht := ht.only ho (by omega); replace hs := hnew; have fi := hi.cell; replace hb := ho.bel _ _ (by omega) hb) | ((with_reducible refine ld_gs NI _ hs ?_ ?_); exact rfl) | (clear fi; go_at_call 29; refine (HX2.out _).mono ?_; rintro e W ⟨rfl, hbc⟩; obtain ⟨hr, hi, hq, hb⟩ := bl3 hbc hr hi hq hb) | ((with_reducible refine st_g (w.heap.size + 2) _ (trapH h 2 v) hq ?_ ?_ ?_); exact rfl; exact rfl; intro W hnew ho; obtain ⟨hr, hi, hb⟩ := on2 ho hr hi hb; replace hq := hnew))
  refine bodyPost_ret (results_cell_row Tryd.results36 _ _ (w.heap.size + 2) _ _ _ _ rfl hq Tryd.underlying28 rfl size_g) rfl ?_
  exact ⟨rfl, hb⟩

set_option maxHeartbeats 1000000 in
theorem rctl_1Cs (h : H) (ok : h.Ok) (op s2 im cs : Int) (rd s1 : Nat) (hrd : rd < 32) (h1 : s1 < 32) (v l : Nat) (hv : v < 4294967296) (hl : l < 4294967296) (old : Nat) (hold : old < 4294967296) (hR : readN h.c cs l = some old) (h0 : s1 ≠ 0) (c : S8) (hc : c.Ok) (hW : writeN h.c cs (mixN 52 old (h.x s1)) = (c, 0)) (w : World) :
    Calls Tryd.prog 36 #[.agg h.cells, .agg (I6.cells ⟨op, (rd : Nat), (s1 : Nat), s2, im, cs⟩), .int .i64 1, .int .u32 v, .int .u32 l] w fun e w' => e = .returned (.agg (goH (writeH (withC h c) rd old) ((h.pc + 4) % 4294967296)).cells) ∧ Below w.heap.size w w' := by
  have b1 : (0 : Int) ≤ s1 := by omega
  have b2 : (s1 : Int) < 32 := by omega
  have b3 : ((s1 : Nat) : Int) % 4294967296 = s1 := by omega
  have HR := hide (fun w => rread_any h.c ok.c cs l hl w)
  rw [hR] at HR
  simp only [readR] at HR
  clear hR
  have t2 : ((s1 : Int) != 0) = true := by simp; omega
  clear h0
  have hv0 : (h.x s1) < 4294967296 := ok.x s1
  have EX : ((mixN 52 old (h.x s1) : Nat) : Int) = bits .or .u32 (old : Int) (((h.x s1) : Nat) : Int) := (u32_or_nat old (h.x s1) hold hv0).symm
  have HW := hide (fun w => rwrite_any h.c ok.c cs (mixN 52 old (h.x s1)) (mixR_lt 52 hold hv0) w)
  rw [hW, EX] at HW
  rw [show (((0 : Nat) : Int)) = 0 from rfl] at HW
  clear hW
  have HX2 := hide (fun w => rtrap8 h ok 2 v (by decide) w)
  rw [show (((2 : Nat) : Int)) = 2 from rfl] at HX2
  have HWi := hide (fun w => rwith_any (withC h c) rd hrd old w)
  have HTo := hide (fun w => rto_any (writeH (withC h c) rd old) (writeH_ok (show (withC h c).Ok from ⟨ok.pc, ok.x, hc⟩) rd hold) ((h.pc + 4) % 4294967296) w)
  have e0 : (((h.pc + 4) % 4294967296 : Nat) : Int) = ((h.pc : Int) + 4) % 4294967296 := by omega
  rw [e0] at HTo
  go_enter Tryd.func36, Tryd.ntmps36
  go_wp2_with (first | ((with_reducible refine bx_g w.heap.size h ?_ ?_ ?_); exact rfl; exact rfl; intro W hr hb hz) | ((with_reducible refine bx_ri (w.heap.size + 1) ⟨op, (rd : Nat), (s1 : Nat), s2, im, cs⟩ ?_ ?_ ?_); exact hz.out; exact rfl; intro W hi hb' hz'; obtain ⟨hr, hb⟩ := an1 hz hb' hr hb; replace hz := hz') | ((with_reducible refine al_g (w.heap.size + 2) ?_ ?_); exact hz.out; intro W hq hb' hz'; obtain ⟨hr, hi, hb⟩ := an2 hz hb' hr hi hb; replace hz := hz'; have fi := hi.cell) | ((with_reducible refine ld_gxr w.heap.size s1 _ h1 hr ?_ ?_); exact rfl) | ((with_reducible refine ld_gc w.heap.size _ hr ?_ ?_); exact rfl) | ((with_reducible refine ld_g w.heap.size _ hr ?_ ?_); exact rfl) | ((with_reducible refine ld_gpc w.heap.size _ hr ?_ ?_); exact rfl) | (clear fi; go_at_call 71; refine (HR.out _).mono ?_; rintro e W ⟨rfl, hbc⟩; obtain ⟨hr, hi, hq, hb⟩ := bl3 hbc hr hi hq hb; have fi := hi.cell; obtain ⟨NI, hNI⟩ : ∃ n, W.heap.size = n := ⟨_, rfl⟩; have lNI : w.heap.size + 3 ≤ NI := (by (have := hq.lt; omega)); replace hNI := hide hNI) | ((with_reducible refine al_gs NI ?_ ?_); exact hNI.out; intro W hs hb' hz'; clear fi; replace hr := hr.bl (hNI.out ▸ hb'); replace hi := hi.bl (hNI.out ▸ hb'); replace hq := hq.bl (hNI.out ▸ hb'); have fi := hi.cell; replace hb := hb.trans (hb'.mono (by omega))) | ((with_reducible refine st_gs NI _ h.c hs ?_ ?_ ?_); exact rfl; exact rfl; intro W hnew ho; clear fi; replace hr := hr.only ho (by omega); replace hi := hi.only ho (by omega); replace hq := hq.only ho (by omega); replace hs := hnew; have fi := hi.cell; replace hb := ho.bel _ _ (by omega) hb) | (clear fi; go_at_call 72; refine (HW.out _).mono ?_; rintro e W ⟨rfl, hbc⟩; obtain ⟨hr, hi, hq, hs, hb⟩ := bl4 hbc hr hi hq hs hb; have fi := hi.cell; obtain ⟨NJ, hNJ⟩ : ∃ n, W.heap.size = n := ⟨_, rfl⟩; have lNJ : NI + 1 ≤ NJ := (by (have := hs.lt; omega)); replace hNJ := hide hNJ) | ((with_reducible refine al_gs NJ ?_ ?_); exact hNJ.out; intro W ht hb' hz'; clear fi; replace hr := hr.bl (hNJ.out ▸ hb'); replace hi := hi.bl (hNJ.out ▸ hb'); replace hq := hq.bl (hNJ.out ▸ hb'); replace hs := hs.bl (hNJ.out ▸ hb'); have fi := hi.cell; replace hb := hb.trans (hb'.mono (by omega))) | ((with_reducible refine st_gs NJ _ c ht ?_ ?_ ?_); exact rfl; exact rfl; intro W hnew ho; clear fi; replace hr := hr.only ho (by omega); replace hi := hi.only ho (by omega); replace hq := hq.only ho (by omega); replace hs := hs.only ho (by omega); replace ht := hnew; have fi := hi.cell; replace hb := ho.bel _ _ (by omega) hb) | ((with_reducible refine ld_gs NJ _ ht ?_ ?_); exact rfl) | ((with_reducible refine st_gs NI _ c hs ?_ ?_ ?_); exact rfl; exact rfl; intro W hnew ho; clear fi; replace hr := hr.only ho (by omega); replace hi := hi.only ho (by omega); replace hq := hq.only ho (by omega); replace ht := ht.only ho (by omega); replace hs := hnew; have fi := hi.cell; replace hb := ho.bel _ _ (by omega) hb) | ((with_reducible refine ld_gs NI _ hs ?_ ?_); exact rfl) | ((with_reducible refine st_gc w.heap.size h c hr ?_ ?_ ?_); exact rfl; exact rfl; intro W hnew ho; obtain ⟨hi, hq, hb⟩ := on2 ho hi hq hb; replace hr := hnew))
  replace hq := hq.dr
  clear fi
  refine wp_region_held_drew (S := (fun V => RowAt V w.heap.size (withC h c).cells 28 ∧ RowAt V (w.heap.size + 1) (I6.cells ⟨op, (rd : Nat), (s1 : Nat), s2, im, cs⟩) 69 ∧ Below w.heap.size w V)) (by kernel_rfl) ?_ (fun hHeld => ?_)
  · exact ⟨hr.dr, hi.dr, hb.drew⟩
  generalize W.drew = V at hHeld hq ⊢
  refine tkO 0 (.agg (withC h c).cells) (by simp only [gT, gZ]; rfl) (y_g0 w.heap.size (withC h c) (fun V hV => hV.1) rfl) ?_
  simp only [Act.put, pA, pZ, pS]
  refine tkO 1 (.pointer (some ⟨w.heap.size + 1, 1, none⟩)) (by simp only [gT, gZ, gS]; rfl) (puO (by (intro w hSw; (try dsimp only at hSw); go_simp))) ?_
  simp only [Act.put, pA, pZ, pS]
  refine tkO 2 (.int .i64 (rd : Nat)) (by simp only [gT, gZ, gS]; rfl) (y_int (w.heap.size + 1) 1 (rd : Nat) (fun V hV => (hV.2.1.cell 1).trans (I6.c1 _)) rfl) ?_
  simp only [Act.put, pA, pZ, pS]
  refine tkO 3 (.int .u32 (old : Nat)) (by simp only [gT, gZ, gS]; rfl) (puO (by (intro w hSw; (try dsimp only at hSw); go_simp))) ?_
  simp only [Act.put, pA, pZ, pS]
  refine tkO 5 (.pointer (some ⟨w.heap.size, 0, none⟩)) (by simp only [gT, gZ, gS]; rfl) (puO (by (intro w hSw; (try dsimp only at hSw); go_simp))) ?_
  simp only [Act.put, pA, pZ, pS]
  refine tkO 6 (.int .u32 (h.pc : Nat)) (by simp only [gT, gZ, gS]; rfl) (y_word w.heap.size 0 (h.pc : Nat) (fun V hV => hV.1.cell 0) rfl) ?_
  simp only [Act.put, pA, pZ, pS]
  refine tkO 7 (.int .u32 (((h.pc : Nat) + 4 : Int) % 4294967296)) (by simp only [gT, gZ, gS]; rfl) (puO (by (intro w hSw; (try dsimp only at hSw); go_simp ; exact IntKind.wrap_u32 _))) ?_
  simp only [Act.put, pA, pZ, pS]
  refine skO 4 (by simp only [gT, gZ, gS]; rfl) (fun K hK => ?_)
  go_simp
  (with_reducible refine (HWi.out _).mono ?_)
  rintro e V ⟨rfl, hbc⟩
  replace hq := hq.bl hbc
  have hH2 := hide (And.intro (hHeld.1.bl hbc) (And.intro (hHeld.2.1.bl hbc) (below_bl rfl hHeld.2.2 hbc)))
  clear hHeld hbc
  go_simp
  refine hK.out _ _ ?_ (fun hHeld => ?_)
  · exact hH2.out
  clear hK K
  clear hH2
  refine skO 8 (by simp only [gT, gZ, gS]; rfl) (fun K hK => ?_)
  go_simp
  (with_reducible refine (HTo.out _).mono ?_)
  rintro e V ⟨rfl, hbc⟩
  replace hq := hq.bl hbc
  have hH2 := hide (And.intro (hHeld.1.bl hbc) (And.intro (hHeld.2.1.bl hbc) (below_bl rfl hHeld.2.2 hbc)))
  clear hHeld hbc
  go_simp
  refine hK.out _ _ ?_ (fun hHeld => ?_)
  · exact hH2.out
  clear hK K
  clear hH2
  refine skO 9 (by simp only [gT, gZ, gS]; rfl) (fun K hK => ?_)
  rw [if_pos (by rfl)]
  (with_reducible refine s_g (w.heap.size + 2) _ (goH (writeH (withC h c) rd old) ((h.pc + 4) % 4294967296)) hq ?_ ?_ ?_)
  · exact rfl
  · exact rfl
  intro V hnew ho
  have hH2 := hide (And.intro (hHeld.1.only ho (by omega)) (And.intro (hHeld.2.1.only ho (by omega)) (ho.bel _ _ (by omega) hHeld.2.2)))
  replace hq := hnew
  clear hHeld
  refine hK.out _ _ ?_ (fun hHeld => ?_)
  · exact hH2.out
  clear hK K
  clear hH2
  refine wpAnyH_done (by kernel_rfl) ?_ _
  replace hb := hHeld.2.2
  clear hHeld
  go_wp2
  refine bodyPost_ret (results_cell_row Tryd.results36 _ _ (w.heap.size + 2) _ _ _ _ rfl hq Tryd.underlying28 rfl size_g) rfl ?_
  exact ⟨rfl, hb⟩

set_option maxHeartbeats 1000000 in
theorem rctl_1D (h : H) (ok : h.Ok) (op s2 im cs : Int) (rd s1 : Nat) (hrd : rd < 32) (h1 : s1 < 32) (v l : Nat) (hv : v < 4294967296) (hl : l < 4294967296) (old : Nat) (hold : old < 4294967296) (hR : readN h.c cs l = some old) (h0 : s1 = 0) (w : World) :
    Calls Tryd.prog 36 #[.agg h.cells, .agg (I6.cells ⟨op, (rd : Nat), (s1 : Nat), s2, im, cs⟩), .int .i64 1, .int .u32 v, .int .u32 l] w fun e w' => e = .returned (.agg (goH (writeH h rd old) ((h.pc + 4) % 4294967296)).cells) ∧ Below w.heap.size w w' := by
  have b1 : (0 : Int) ≤ s1 := by omega
  have b2 : (s1 : Int) < 32 := by omega
  have b3 : ((s1 : Nat) : Int) % 4294967296 = s1 := by omega
  have HR := hide (fun w => rread_any h.c ok.c cs l hl w)
  rw [hR] at HR
  simp only [readR] at HR
  clear hR
  have t2 : ((s1 : Int) != 0) = false := by simp; omega
  clear h0
  have HX2 := hide (fun w => rtrap8 h ok 2 v (by decide) w)
  rw [show (((2 : Nat) : Int)) = 2 from rfl] at HX2
  have HWi := hide (fun w => rwith_any h rd hrd old w)
  have HTo := hide (fun w => rto_any (writeH h rd old) (writeH_ok ok rd hold) ((h.pc + 4) % 4294967296) w)
  have e0 : (((h.pc + 4) % 4294967296 : Nat) : Int) = ((h.pc : Int) + 4) % 4294967296 := by omega
  rw [e0] at HTo
  go_enter Tryd.func36, Tryd.ntmps36
  go_wp2_with (first | ((with_reducible refine bx_g w.heap.size h ?_ ?_ ?_); exact rfl; exact rfl; intro W hr hb hz) | ((with_reducible refine bx_ri (w.heap.size + 1) ⟨op, (rd : Nat), (s1 : Nat), s2, im, cs⟩ ?_ ?_ ?_); exact hz.out; exact rfl; intro W hi hb' hz'; obtain ⟨hr, hb⟩ := an1 hz hb' hr hb; replace hz := hz') | ((with_reducible refine al_g (w.heap.size + 2) ?_ ?_); exact hz.out; intro W hq hb' hz'; obtain ⟨hr, hi, hb⟩ := an2 hz hb' hr hi hb; replace hz := hz'; have fi := hi.cell) | ((with_reducible refine ld_gxr w.heap.size s1 _ h1 hr ?_ ?_); exact rfl) | ((with_reducible refine ld_gc w.heap.size _ hr ?_ ?_); exact rfl) | ((with_reducible refine ld_g w.heap.size _ hr ?_ ?_); exact rfl) | ((with_reducible refine ld_gpc w.heap.size _ hr ?_ ?_); exact rfl) | (clear fi; go_at_call 71; refine (HR.out _).mono ?_; rintro e W ⟨rfl, hbc⟩; obtain ⟨hr, hi, hq, hb⟩ := bl3 hbc hr hi hq hb; have fi := hi.cell; obtain ⟨NI, hNI⟩ : ∃ n, W.heap.size = n := ⟨_, rfl⟩; have lNI : w.heap.size + 3 ≤ NI := (by (have := hq.lt; omega)); replace hNI := hide hNI) | ((with_reducible refine al_gs NI ?_ ?_); exact hNI.out; intro W hs hb' hz'; clear fi; replace hr := hr.bl (hNI.out ▸ hb'); replace hi := hi.bl (hNI.out ▸ hb'); replace hq := hq.bl (hNI.out ▸ hb'); have fi := hi.cell; replace hb := hb.trans (hb'.mono (by omega))) | ((with_reducible refine st_gs NI _ h.c hs ?_ ?_ ?_); exact rfl; exact rfl; intro W hnew ho; clear fi; replace hr := hr.only ho (by omega); replace hi := hi.only ho (by omega); replace hq := hq.only ho (by omega); replace hs := hnew; have fi := hi.cell; replace hb := ho.bel _ _ (by omega) hb) | ((with_reducible refine st_gs NI _ c hs ?_ ?_ ?_); exact rfl; exact rfl; intro W hnew ho; clear fi; replace hr := hr.only ho (by omega); replace hi := hi.only ho (by omega); replace hq := hq.only ho (by omega); replace ht := ht.only ho (by omega); replace hs := hnew; have fi := hi.cell; replace hb := ho.bel _ _ (by omega) hb) | ((with_reducible refine ld_gs NI _ hs ?_ ?_); exact rfl) | ((with_reducible refine st_gc w.heap.size h h.c hr ?_ ?_ ?_); exact rfl; exact rfl; intro W hnew ho; obtain ⟨hi, hq, hb⟩ := on2 ho hi hq hb; replace hr := hnew))
  replace hq := hq.dr
  clear fi
  refine wp_region_held_drew (S := (fun V => RowAt V w.heap.size h.cells 28 ∧ RowAt V (w.heap.size + 1) (I6.cells ⟨op, (rd : Nat), (s1 : Nat), s2, im, cs⟩) 69 ∧ Below w.heap.size w V)) (by kernel_rfl) ?_ (fun hHeld => ?_)
  · exact ⟨hr.dr, hi.dr, hb.drew⟩
  generalize W.drew = V at hHeld hq ⊢
  refine tkO 0 (.agg h.cells) (by simp only [gT, gZ]; rfl) (y_g0 w.heap.size h (fun V hV => hV.1) rfl) ?_
  simp only [Act.put, pA, pZ, pS]
  refine tkO 1 (.pointer (some ⟨w.heap.size + 1, 1, none⟩)) (by simp only [gT, gZ, gS]; rfl) (puO (by (intro w hSw; (try dsimp only at hSw); go_simp))) ?_
  simp only [Act.put, pA, pZ, pS]
  refine tkO 2 (.int .i64 (rd : Nat)) (by simp only [gT, gZ, gS]; rfl) (y_int (w.heap.size + 1) 1 (rd : Nat) (fun V hV => (hV.2.1.cell 1).trans (I6.c1 _)) rfl) ?_
  simp only [Act.put, pA, pZ, pS]
  refine tkO 3 (.int .u32 (old : Nat)) (by simp only [gT, gZ, gS]; rfl) (puO (by (intro w hSw; (try dsimp only at hSw); go_simp))) ?_
  simp only [Act.put, pA, pZ, pS]
  refine tkO 5 (.pointer (some ⟨w.heap.size, 0, none⟩)) (by simp only [gT, gZ, gS]; rfl) (puO (by (intro w hSw; (try dsimp only at hSw); go_simp))) ?_
  simp only [Act.put, pA, pZ, pS]
  refine tkO 6 (.int .u32 (h.pc : Nat)) (by simp only [gT, gZ, gS]; rfl) (y_word w.heap.size 0 (h.pc : Nat) (fun V hV => hV.1.cell 0) rfl) ?_
  simp only [Act.put, pA, pZ, pS]
  refine tkO 7 (.int .u32 (((h.pc : Nat) + 4 : Int) % 4294967296)) (by simp only [gT, gZ, gS]; rfl) (puO (by (intro w hSw; (try dsimp only at hSw); go_simp ; exact IntKind.wrap_u32 _))) ?_
  simp only [Act.put, pA, pZ, pS]
  refine skO 4 (by simp only [gT, gZ, gS]; rfl) (fun K hK => ?_)
  go_simp
  (with_reducible refine (HWi.out _).mono ?_)
  rintro e V ⟨rfl, hbc⟩
  replace hq := hq.bl hbc
  have hH2 := hide (And.intro (hHeld.1.bl hbc) (And.intro (hHeld.2.1.bl hbc) (below_bl rfl hHeld.2.2 hbc)))
  clear hHeld hbc
  go_simp
  refine hK.out _ _ ?_ (fun hHeld => ?_)
  · exact hH2.out
  clear hK K
  clear hH2
  refine skO 8 (by simp only [gT, gZ, gS]; rfl) (fun K hK => ?_)
  go_simp
  (with_reducible refine (HTo.out _).mono ?_)
  rintro e V ⟨rfl, hbc⟩
  replace hq := hq.bl hbc
  have hH2 := hide (And.intro (hHeld.1.bl hbc) (And.intro (hHeld.2.1.bl hbc) (below_bl rfl hHeld.2.2 hbc)))
  clear hHeld hbc
  go_simp
  refine hK.out _ _ ?_ (fun hHeld => ?_)
  · exact hH2.out
  clear hK K
  clear hH2
  refine skO 9 (by simp only [gT, gZ, gS]; rfl) (fun K hK => ?_)
  rw [if_pos (by rfl)]
  (with_reducible refine s_g (w.heap.size + 2) _ (goH (writeH h rd old) ((h.pc + 4) % 4294967296)) hq ?_ ?_ ?_)
  · exact rfl
  · exact rfl
  intro V hnew ho
  have hH2 := hide (And.intro (hHeld.1.only ho (by omega)) (And.intro (hHeld.2.1.only ho (by omega)) (ho.bel _ _ (by omega) hHeld.2.2)))
  replace hq := hnew
  clear hHeld
  refine hK.out _ _ ?_ (fun hHeld => ?_)
  · exact hH2.out
  clear hK K
  clear hH2
  refine wpAnyH_done (by kernel_rfl) ?_ _
  replace hb := hHeld.2.2
  clear hHeld
  go_wp2
  refine bodyPost_ret (results_cell_row Tryd.results36 _ _ (w.heap.size + 2) _ _ _ _ rfl hq Tryd.underlying28 rfl size_g) rfl ?_
  exact ⟨rfl, hb⟩

set_option maxHeartbeats 1000000 in
theorem rctl_4A (h : H) (ok : h.Ok) (op s2 im cs : Int) (rd s1 : Nat) (hrd : rd < 32) (h1 : s1 < 32) (v l : Nat) (hv : v < 4294967296) (hl : l < 4294967296) (hR : readN h.c cs l = none) (w : World) :
    Calls Tryd.prog 36 #[.agg h.cells, .agg (I6.cells ⟨op, (rd : Nat), (s1 : Nat), s2, im, cs⟩), .int .i64 4, .int .u32 v, .int .u32 l] w fun e w' => e = .returned (.agg (trapH h 2 v).cells) ∧ Below w.heap.size w w' := by
  have b1 : (0 : Int) ≤ s1 := by omega
  have b2 : (s1 : Int) < 32 := by omega
  have b3 : ((s1 : Nat) : Int) % 4294967296 = s1 := by omega
  have HR := hide (fun w => rread_any h.c ok.c cs l hl w)
  rw [hR] at HR
  simp only [readR] at HR
  clear hR
  have HX2 := hide (fun w => rtrap8 h ok 2 v (by decide) w)
  rw [show (((2 : Nat) : Int)) = 2 from rfl] at HX2
  go_enter Tryd.func36, Tryd.ntmps36
  go_wp2_with (first | ((with_reducible refine bx_g w.heap.size h ?_ ?_ ?_); exact rfl; exact rfl; intro W hr hb hz) | ((with_reducible refine bx_ri (w.heap.size + 1) ⟨op, (rd : Nat), (s1 : Nat), s2, im, cs⟩ ?_ ?_ ?_); exact hz.out; exact rfl; intro W hi hb' hz'; obtain ⟨hr, hb⟩ := an1 hz hb' hr hb; replace hz := hz') | ((with_reducible refine al_g (w.heap.size + 2) ?_ ?_); exact hz.out; intro W hq hb' hz'; obtain ⟨hr, hi, hb⟩ := an2 hz hb' hr hi hb; replace hz := hz'; have fi := hi.cell) | ((with_reducible refine ld_gxr w.heap.size s1 _ h1 hr ?_ ?_); exact rfl) | ((with_reducible refine ld_gc w.heap.size _ hr ?_ ?_); exact rfl) | ((with_reducible refine ld_g w.heap.size _ hr ?_ ?_); exact rfl) | ((with_reducible refine ld_gpc w.heap.size _ hr ?_ ?_); exact rfl) | (clear fi; go_at_call 71; refine (HR.out _).mono ?_; rintro e W ⟨rfl, hbc⟩; obtain ⟨hr, hi, hq, hb⟩ := bl3 hbc hr hi hq hb; have fi := hi.cell; obtain ⟨NI, hNI⟩ : ∃ n, W.heap.size = n := ⟨_, rfl⟩; have lNI : w.heap.size + 3 ≤ NI := (by (have := hq.lt; omega)); replace hNI := hide hNI) | (clear fi; go_at_call 29; refine (HX2.out _).mono ?_; rintro e W ⟨rfl, hbc⟩; obtain ⟨hr, hi, hq, hb⟩ := bl3 hbc hr hi hq hb) | ((with_reducible refine st_g (w.heap.size + 2) _ (trapH h 2 v) hq ?_ ?_ ?_); exact rfl; exact rfl; intro W hnew ho; obtain ⟨hr, hi, hb⟩ := on2 ho hr hi hb; replace hq := hnew))
  refine bodyPost_ret (results_cell_row Tryd.results36 _ _ (w.heap.size + 2) _ _ _ _ rfl hq Tryd.underlying28 rfl size_g) rfl ?_
  exact ⟨rfl, hb⟩

set_option maxHeartbeats 1000000 in
theorem rctl_4Bs (h : H) (ok : h.Ok) (op s2 im cs : Int) (rd s1 : Nat) (hrd : rd < 32) (h1 : s1 < 32) (v l : Nat) (hv : v < 4294967296) (hl : l < 4294967296) (old : Nat) (hold : old < 4294967296) (hR : readN h.c cs l = some old) (h0 : s1 ≠ 0) (c : S8) (e : Nat) (hW : writeN h.c cs (mixN 55 old s1) = (c, e + 1)) (w : World) :
    Calls Tryd.prog 36 #[.agg h.cells, .agg (I6.cells ⟨op, (rd : Nat), (s1 : Nat), s2, im, cs⟩), .int .i64 4, .int .u32 v, .int .u32 l] w fun e w' => e = .returned (.agg (trapH h 2 v).cells) ∧ Below w.heap.size w w' := by
  have b1 : (0 : Int) ≤ s1 := by omega
  have b2 : (s1 : Int) < 32 := by omega
  have b3 : ((s1 : Nat) : Int) % 4294967296 = s1 := by omega
  have HR := hide (fun w => rread_any h.c ok.c cs l hl w)
  rw [hR] at HR
  simp only [readR] at HR
  clear hR
  have t2 : ((s1 : Int) != 0) = true := by simp; omega
  clear h0
  have hv0 : s1 < 4294967296 := by omega
  have EX : ((mixN 55 old s1 : Nat) : Int) = bits .or .u32 (old : Int) ((s1 : Nat) : Int) := (u32_or_nat old s1 hold hv0).symm
  have HW := hide (fun w => rwrite_any h.c ok.c cs (mixN 55 old s1) (mixR_lt 55 hold hv0) w)
  rw [hW, EX] at HW
  have t3 : (((e + 1 : Nat) : Int) != 0) = true := by simp; omega
  clear hW
  have HX2 := hide (fun w => rtrap8 h ok 2 v (by decide) w)
  rw [show (((2 : Nat) : Int)) = 2 from rfl] at HX2
  go_enter Tryd.func36, Tryd.ntmps36
  go_wp2_with (first | ((with_reducible refine bx_g w.heap.size h ?_ ?_ ?_); exact rfl; exact rfl; intro W hr hb hz) | ((with_reducible refine bx_ri (w.heap.size + 1) ⟨op, (rd : Nat), (s1 : Nat), s2, im, cs⟩ ?_ ?_ ?_); exact hz.out; exact rfl; intro W hi hb' hz'; obtain ⟨hr, hb⟩ := an1 hz hb' hr hb; replace hz := hz') | ((with_reducible refine al_g (w.heap.size + 2) ?_ ?_); exact hz.out; intro W hq hb' hz'; obtain ⟨hr, hi, hb⟩ := an2 hz hb' hr hi hb; replace hz := hz'; have fi := hi.cell) | ((with_reducible refine ld_gxr w.heap.size s1 _ h1 hr ?_ ?_); exact rfl) | ((with_reducible refine ld_gc w.heap.size _ hr ?_ ?_); exact rfl) | ((with_reducible refine ld_g w.heap.size _ hr ?_ ?_); exact rfl) | ((with_reducible refine ld_gpc w.heap.size _ hr ?_ ?_); exact rfl) | (clear fi; go_at_call 71; refine (HR.out _).mono ?_; rintro e W ⟨rfl, hbc⟩; obtain ⟨hr, hi, hq, hb⟩ := bl3 hbc hr hi hq hb; have fi := hi.cell; obtain ⟨NI, hNI⟩ : ∃ n, W.heap.size = n := ⟨_, rfl⟩; have lNI : w.heap.size + 3 ≤ NI := (by (have := hq.lt; omega)); replace hNI := hide hNI) | ((with_reducible refine al_gs NI ?_ ?_); exact hNI.out; intro W hs hb' hz'; clear fi; replace hr := hr.bl (hNI.out ▸ hb'); replace hi := hi.bl (hNI.out ▸ hb'); replace hq := hq.bl (hNI.out ▸ hb'); have fi := hi.cell; replace hb := hb.trans (hb'.mono (by omega))) | ((with_reducible refine st_gs NI _ h.c hs ?_ ?_ ?_); exact rfl; exact rfl; intro W hnew ho; clear fi; replace hr := hr.only ho (by omega); replace hi := hi.only ho (by omega); replace hq := hq.only ho (by omega); replace hs := hnew; have fi := hi.cell; replace hb := ho.bel _ _ (by omega) hb) | (clear fi; go_at_call 72; refine (HW.out _).mono ?_; rintro e W ⟨rfl, hbc⟩; obtain ⟨hr, hi, hq, hs, hb⟩ := bl4 hbc hr hi hq hs hb; have fi := hi.cell; obtain ⟨NJ, hNJ⟩ : ∃ n, W.heap.size = n := ⟨_, rfl⟩; have lNJ : NI + 1 ≤ NJ := (by (have := hs.lt; omega)); replace hNJ := hide hNJ) | ((with_reducible refine al_gs NJ ?_ ?_); exact hNJ.out; intro W ht hb' hz'; clear fi; replace hr := hr.bl (hNJ.out ▸ hb'); replace hi := hi.bl (hNJ.out ▸ hb'); replace hq := hq.bl (hNJ.out ▸ hb'); replace hs := hs.bl (hNJ.out ▸ hb'); have fi := hi.cell; replace hb := hb.trans (hb'.mono (by omega))) | ((with_reducible refine st_gs NJ _ c ht ?_ ?_ ?_); exact rfl; exact rfl; intro W hnew ho; clear fi; replace hr := hr.only ho (by omega); replace hi := hi.only ho (by omega); replace hq := hq.only ho (by omega); replace hs := hs.only ho (by omega); replace ht := hnew; have fi := hi.cell; replace hb := ho.bel _ _ (by omega) hb) | ((with_reducible refine ld_gs NJ _ ht ?_ ?_); exact rfl) | ((with_reducible refine st_gs NI _ c hs ?_ ?_ ?_); exact rfl; exact rfl; intro W hnew ho; clear fi; replace hr := hr.only ho (by omega); replace hi := hi.only ho (by omega); replace hq := hq.only ho (by omega); replace ht := ht.only ho (by omega); replace hs := hnew; have fi := hi.cell; replace hb := ho.bel _ _ (by omega) hb) | ((with_reducible refine ld_gs NI _ hs ?_ ?_); exact rfl) | (clear fi; go_at_call 29; refine (HX2.out _).mono ?_; rintro e W ⟨rfl, hbc⟩; obtain ⟨hr, hi, hq, hb⟩ := bl3 hbc hr hi hq hb) | ((with_reducible refine st_g (w.heap.size + 2) _ (trapH h 2 v) hq ?_ ?_ ?_); exact rfl; exact rfl; intro W hnew ho; obtain ⟨hr, hi, hb⟩ := on2 ho hr hi hb; replace hq := hnew))
  refine bodyPost_ret (results_cell_row Tryd.results36 _ _ (w.heap.size + 2) _ _ _ _ rfl hq Tryd.underlying28 rfl size_g) rfl ?_
  exact ⟨rfl, hb⟩

set_option maxHeartbeats 1000000 in
theorem rctl_4Cs (h : H) (ok : h.Ok) (op s2 im cs : Int) (rd s1 : Nat) (hrd : rd < 32) (h1 : s1 < 32) (v l : Nat) (hv : v < 4294967296) (hl : l < 4294967296) (old : Nat) (hold : old < 4294967296) (hR : readN h.c cs l = some old) (h0 : s1 ≠ 0) (c : S8) (hc : c.Ok) (hW : writeN h.c cs (mixN 55 old s1) = (c, 0)) (w : World) :
    Calls Tryd.prog 36 #[.agg h.cells, .agg (I6.cells ⟨op, (rd : Nat), (s1 : Nat), s2, im, cs⟩), .int .i64 4, .int .u32 v, .int .u32 l] w fun e w' => e = .returned (.agg (goH (writeH (withC h c) rd old) ((h.pc + 4) % 4294967296)).cells) ∧ Below w.heap.size w w' := by
  have b1 : (0 : Int) ≤ s1 := by omega
  have b2 : (s1 : Int) < 32 := by omega
  have b3 : ((s1 : Nat) : Int) % 4294967296 = s1 := by omega
  have HR := hide (fun w => rread_any h.c ok.c cs l hl w)
  rw [hR] at HR
  simp only [readR] at HR
  clear hR
  have t2 : ((s1 : Int) != 0) = true := by simp; omega
  clear h0
  have hv0 : s1 < 4294967296 := by omega
  have EX : ((mixN 55 old s1 : Nat) : Int) = bits .or .u32 (old : Int) ((s1 : Nat) : Int) := (u32_or_nat old s1 hold hv0).symm
  have HW := hide (fun w => rwrite_any h.c ok.c cs (mixN 55 old s1) (mixR_lt 55 hold hv0) w)
  rw [hW, EX] at HW
  rw [show (((0 : Nat) : Int)) = 0 from rfl] at HW
  clear hW
  have HX2 := hide (fun w => rtrap8 h ok 2 v (by decide) w)
  rw [show (((2 : Nat) : Int)) = 2 from rfl] at HX2
  have HWi := hide (fun w => rwith_any (withC h c) rd hrd old w)
  have HTo := hide (fun w => rto_any (writeH (withC h c) rd old) (writeH_ok (show (withC h c).Ok from ⟨ok.pc, ok.x, hc⟩) rd hold) ((h.pc + 4) % 4294967296) w)
  have e0 : (((h.pc + 4) % 4294967296 : Nat) : Int) = ((h.pc : Int) + 4) % 4294967296 := by omega
  rw [e0] at HTo
  go_enter Tryd.func36, Tryd.ntmps36
  go_wp2_with (first | ((with_reducible refine bx_g w.heap.size h ?_ ?_ ?_); exact rfl; exact rfl; intro W hr hb hz) | ((with_reducible refine bx_ri (w.heap.size + 1) ⟨op, (rd : Nat), (s1 : Nat), s2, im, cs⟩ ?_ ?_ ?_); exact hz.out; exact rfl; intro W hi hb' hz'; obtain ⟨hr, hb⟩ := an1 hz hb' hr hb; replace hz := hz') | ((with_reducible refine al_g (w.heap.size + 2) ?_ ?_); exact hz.out; intro W hq hb' hz'; obtain ⟨hr, hi, hb⟩ := an2 hz hb' hr hi hb; replace hz := hz'; have fi := hi.cell) | ((with_reducible refine ld_gxr w.heap.size s1 _ h1 hr ?_ ?_); exact rfl) | ((with_reducible refine ld_gc w.heap.size _ hr ?_ ?_); exact rfl) | ((with_reducible refine ld_g w.heap.size _ hr ?_ ?_); exact rfl) | ((with_reducible refine ld_gpc w.heap.size _ hr ?_ ?_); exact rfl) | (clear fi; go_at_call 71; refine (HR.out _).mono ?_; rintro e W ⟨rfl, hbc⟩; obtain ⟨hr, hi, hq, hb⟩ := bl3 hbc hr hi hq hb; have fi := hi.cell; obtain ⟨NI, hNI⟩ : ∃ n, W.heap.size = n := ⟨_, rfl⟩; have lNI : w.heap.size + 3 ≤ NI := (by (have := hq.lt; omega)); replace hNI := hide hNI) | ((with_reducible refine al_gs NI ?_ ?_); exact hNI.out; intro W hs hb' hz'; clear fi; replace hr := hr.bl (hNI.out ▸ hb'); replace hi := hi.bl (hNI.out ▸ hb'); replace hq := hq.bl (hNI.out ▸ hb'); have fi := hi.cell; replace hb := hb.trans (hb'.mono (by omega))) | ((with_reducible refine st_gs NI _ h.c hs ?_ ?_ ?_); exact rfl; exact rfl; intro W hnew ho; clear fi; replace hr := hr.only ho (by omega); replace hi := hi.only ho (by omega); replace hq := hq.only ho (by omega); replace hs := hnew; have fi := hi.cell; replace hb := ho.bel _ _ (by omega) hb) | (clear fi; go_at_call 72; refine (HW.out _).mono ?_; rintro e W ⟨rfl, hbc⟩; obtain ⟨hr, hi, hq, hs, hb⟩ := bl4 hbc hr hi hq hs hb; have fi := hi.cell; obtain ⟨NJ, hNJ⟩ : ∃ n, W.heap.size = n := ⟨_, rfl⟩; have lNJ : NI + 1 ≤ NJ := (by (have := hs.lt; omega)); replace hNJ := hide hNJ) | ((with_reducible refine al_gs NJ ?_ ?_); exact hNJ.out; intro W ht hb' hz'; clear fi; replace hr := hr.bl (hNJ.out ▸ hb'); replace hi := hi.bl (hNJ.out ▸ hb'); replace hq := hq.bl (hNJ.out ▸ hb'); replace hs := hs.bl (hNJ.out ▸ hb'); have fi := hi.cell; replace hb := hb.trans (hb'.mono (by omega))) | ((with_reducible refine st_gs NJ _ c ht ?_ ?_ ?_); exact rfl; exact rfl; intro W hnew ho; clear fi; replace hr := hr.only ho (by omega); replace hi := hi.only ho (by omega); replace hq := hq.only ho (by omega); replace hs := hs.only ho (by omega); replace ht := hnew; have fi := hi.cell; replace hb := ho.bel _ _ (by omega) hb) | ((with_reducible refine ld_gs NJ _ ht ?_ ?_); exact rfl) | ((with_reducible refine st_gs NI _ c hs ?_ ?_ ?_); exact rfl; exact rfl; intro W hnew ho; clear fi; replace hr := hr.only ho (by omega); replace hi := hi.only ho (by omega); replace hq := hq.only ho (by omega); replace ht := ht.only ho (by omega); replace hs := hnew; have fi := hi.cell; replace hb := ho.bel _ _ (by omega) hb) | ((with_reducible refine ld_gs NI _ hs ?_ ?_); exact rfl) | ((with_reducible refine st_gc w.heap.size h c hr ?_ ?_ ?_); exact rfl; exact rfl; intro W hnew ho; obtain ⟨hi, hq, hb⟩ := on2 ho hi hq hb; replace hr := hnew))
  replace hq := hq.dr
  clear fi
  refine wp_region_held_drew (S := (fun V => RowAt V w.heap.size (withC h c).cells 28 ∧ RowAt V (w.heap.size + 1) (I6.cells ⟨op, (rd : Nat), (s1 : Nat), s2, im, cs⟩) 69 ∧ Below w.heap.size w V)) (by kernel_rfl) ?_ (fun hHeld => ?_)
  · exact ⟨hr.dr, hi.dr, hb.drew⟩
  generalize W.drew = V at hHeld hq ⊢
  refine tkO 0 (.agg (withC h c).cells) (by simp only [gT, gZ]; rfl) (y_g0 w.heap.size (withC h c) (fun V hV => hV.1) rfl) ?_
  simp only [Act.put, pA, pZ, pS]
  refine tkO 1 (.pointer (some ⟨w.heap.size + 1, 1, none⟩)) (by simp only [gT, gZ, gS]; rfl) (puO (by (intro w hSw; (try dsimp only at hSw); go_simp))) ?_
  simp only [Act.put, pA, pZ, pS]
  refine tkO 2 (.int .i64 (rd : Nat)) (by simp only [gT, gZ, gS]; rfl) (y_int (w.heap.size + 1) 1 (rd : Nat) (fun V hV => (hV.2.1.cell 1).trans (I6.c1 _)) rfl) ?_
  simp only [Act.put, pA, pZ, pS]
  refine tkO 3 (.int .u32 (old : Nat)) (by simp only [gT, gZ, gS]; rfl) (puO (by (intro w hSw; (try dsimp only at hSw); go_simp))) ?_
  simp only [Act.put, pA, pZ, pS]
  refine tkO 5 (.pointer (some ⟨w.heap.size, 0, none⟩)) (by simp only [gT, gZ, gS]; rfl) (puO (by (intro w hSw; (try dsimp only at hSw); go_simp))) ?_
  simp only [Act.put, pA, pZ, pS]
  refine tkO 6 (.int .u32 (h.pc : Nat)) (by simp only [gT, gZ, gS]; rfl) (y_word w.heap.size 0 (h.pc : Nat) (fun V hV => hV.1.cell 0) rfl) ?_
  simp only [Act.put, pA, pZ, pS]
  refine tkO 7 (.int .u32 (((h.pc : Nat) + 4 : Int) % 4294967296)) (by simp only [gT, gZ, gS]; rfl) (puO (by (intro w hSw; (try dsimp only at hSw); go_simp ; exact IntKind.wrap_u32 _))) ?_
  simp only [Act.put, pA, pZ, pS]
  refine skO 4 (by simp only [gT, gZ, gS]; rfl) (fun K hK => ?_)
  go_simp
  (with_reducible refine (HWi.out _).mono ?_)
  rintro e V ⟨rfl, hbc⟩
  replace hq := hq.bl hbc
  have hH2 := hide (And.intro (hHeld.1.bl hbc) (And.intro (hHeld.2.1.bl hbc) (below_bl rfl hHeld.2.2 hbc)))
  clear hHeld hbc
  go_simp
  refine hK.out _ _ ?_ (fun hHeld => ?_)
  · exact hH2.out
  clear hK K
  clear hH2
  refine skO 8 (by simp only [gT, gZ, gS]; rfl) (fun K hK => ?_)
  go_simp
  (with_reducible refine (HTo.out _).mono ?_)
  rintro e V ⟨rfl, hbc⟩
  replace hq := hq.bl hbc
  have hH2 := hide (And.intro (hHeld.1.bl hbc) (And.intro (hHeld.2.1.bl hbc) (below_bl rfl hHeld.2.2 hbc)))
  clear hHeld hbc
  go_simp
  refine hK.out _ _ ?_ (fun hHeld => ?_)
  · exact hH2.out
  clear hK K
  clear hH2
  refine skO 9 (by simp only [gT, gZ, gS]; rfl) (fun K hK => ?_)
  rw [if_pos (by rfl)]
  (with_reducible refine s_g (w.heap.size + 2) _ (goH (writeH (withC h c) rd old) ((h.pc + 4) % 4294967296)) hq ?_ ?_ ?_)
  · exact rfl
  · exact rfl
  intro V hnew ho
  have hH2 := hide (And.intro (hHeld.1.only ho (by omega)) (And.intro (hHeld.2.1.only ho (by omega)) (ho.bel _ _ (by omega) hHeld.2.2)))
  replace hq := hnew
  clear hHeld
  refine hK.out _ _ ?_ (fun hHeld => ?_)
  · exact hH2.out
  clear hK K
  clear hH2
  refine wpAnyH_done (by kernel_rfl) ?_ _
  replace hb := hHeld.2.2
  clear hHeld
  go_wp2
  refine bodyPost_ret (results_cell_row Tryd.results36 _ _ (w.heap.size + 2) _ _ _ _ rfl hq Tryd.underlying28 rfl size_g) rfl ?_
  exact ⟨rfl, hb⟩

set_option maxHeartbeats 1000000 in
theorem rctl_4D (h : H) (ok : h.Ok) (op s2 im cs : Int) (rd s1 : Nat) (hrd : rd < 32) (h1 : s1 < 32) (v l : Nat) (hv : v < 4294967296) (hl : l < 4294967296) (old : Nat) (hold : old < 4294967296) (hR : readN h.c cs l = some old) (h0 : s1 = 0) (w : World) :
    Calls Tryd.prog 36 #[.agg h.cells, .agg (I6.cells ⟨op, (rd : Nat), (s1 : Nat), s2, im, cs⟩), .int .i64 4, .int .u32 v, .int .u32 l] w fun e w' => e = .returned (.agg (goH (writeH h rd old) ((h.pc + 4) % 4294967296)).cells) ∧ Below w.heap.size w w' := by
  have b1 : (0 : Int) ≤ s1 := by omega
  have b2 : (s1 : Int) < 32 := by omega
  have b3 : ((s1 : Nat) : Int) % 4294967296 = s1 := by omega
  have HR := hide (fun w => rread_any h.c ok.c cs l hl w)
  rw [hR] at HR
  simp only [readR] at HR
  clear hR
  have t2 : ((s1 : Int) != 0) = false := by simp; omega
  clear h0
  have HX2 := hide (fun w => rtrap8 h ok 2 v (by decide) w)
  rw [show (((2 : Nat) : Int)) = 2 from rfl] at HX2
  have HWi := hide (fun w => rwith_any h rd hrd old w)
  have HTo := hide (fun w => rto_any (writeH h rd old) (writeH_ok ok rd hold) ((h.pc + 4) % 4294967296) w)
  have e0 : (((h.pc + 4) % 4294967296 : Nat) : Int) = ((h.pc : Int) + 4) % 4294967296 := by omega
  rw [e0] at HTo
  go_enter Tryd.func36, Tryd.ntmps36
  go_wp2_with (first | ((with_reducible refine bx_g w.heap.size h ?_ ?_ ?_); exact rfl; exact rfl; intro W hr hb hz) | ((with_reducible refine bx_ri (w.heap.size + 1) ⟨op, (rd : Nat), (s1 : Nat), s2, im, cs⟩ ?_ ?_ ?_); exact hz.out; exact rfl; intro W hi hb' hz'; obtain ⟨hr, hb⟩ := an1 hz hb' hr hb; replace hz := hz') | ((with_reducible refine al_g (w.heap.size + 2) ?_ ?_); exact hz.out; intro W hq hb' hz'; obtain ⟨hr, hi, hb⟩ := an2 hz hb' hr hi hb; replace hz := hz'; have fi := hi.cell) | ((with_reducible refine ld_gxr w.heap.size s1 _ h1 hr ?_ ?_); exact rfl) | ((with_reducible refine ld_gc w.heap.size _ hr ?_ ?_); exact rfl) | ((with_reducible refine ld_g w.heap.size _ hr ?_ ?_); exact rfl) | ((with_reducible refine ld_gpc w.heap.size _ hr ?_ ?_); exact rfl) | (clear fi; go_at_call 71; refine (HR.out _).mono ?_; rintro e W ⟨rfl, hbc⟩; obtain ⟨hr, hi, hq, hb⟩ := bl3 hbc hr hi hq hb; have fi := hi.cell; obtain ⟨NI, hNI⟩ : ∃ n, W.heap.size = n := ⟨_, rfl⟩; have lNI : w.heap.size + 3 ≤ NI := (by (have := hq.lt; omega)); replace hNI := hide hNI) | ((with_reducible refine al_gs NI ?_ ?_); exact hNI.out; intro W hs hb' hz'; clear fi; replace hr := hr.bl (hNI.out ▸ hb'); replace hi := hi.bl (hNI.out ▸ hb'); replace hq := hq.bl (hNI.out ▸ hb'); have fi := hi.cell; replace hb := hb.trans (hb'.mono (by omega))) | ((with_reducible refine st_gs NI _ h.c hs ?_ ?_ ?_); exact rfl; exact rfl; intro W hnew ho; clear fi; replace hr := hr.only ho (by omega); replace hi := hi.only ho (by omega); replace hq := hq.only ho (by omega); replace hs := hnew; have fi := hi.cell; replace hb := ho.bel _ _ (by omega) hb) | ((with_reducible refine st_gs NI _ c hs ?_ ?_ ?_); exact rfl; exact rfl; intro W hnew ho; clear fi; replace hr := hr.only ho (by omega); replace hi := hi.only ho (by omega); replace hq := hq.only ho (by omega); replace ht := ht.only ho (by omega); replace hs := hnew; have fi := hi.cell; replace hb := ho.bel _ _ (by omega) hb) | ((with_reducible refine ld_gs NI _ hs ?_ ?_); exact rfl) | ((with_reducible refine st_gc w.heap.size h h.c hr ?_ ?_ ?_); exact rfl; exact rfl; intro W hnew ho; obtain ⟨hi, hq, hb⟩ := on2 ho hi hq hb; replace hr := hnew))
  replace hq := hq.dr
  clear fi
  refine wp_region_held_drew (S := (fun V => RowAt V w.heap.size h.cells 28 ∧ RowAt V (w.heap.size + 1) (I6.cells ⟨op, (rd : Nat), (s1 : Nat), s2, im, cs⟩) 69 ∧ Below w.heap.size w V)) (by kernel_rfl) ?_ (fun hHeld => ?_)
  · exact ⟨hr.dr, hi.dr, hb.drew⟩
  generalize W.drew = V at hHeld hq ⊢
  refine tkO 0 (.agg h.cells) (by simp only [gT, gZ]; rfl) (y_g0 w.heap.size h (fun V hV => hV.1) rfl) ?_
  simp only [Act.put, pA, pZ, pS]
  refine tkO 1 (.pointer (some ⟨w.heap.size + 1, 1, none⟩)) (by simp only [gT, gZ, gS]; rfl) (puO (by (intro w hSw; (try dsimp only at hSw); go_simp))) ?_
  simp only [Act.put, pA, pZ, pS]
  refine tkO 2 (.int .i64 (rd : Nat)) (by simp only [gT, gZ, gS]; rfl) (y_int (w.heap.size + 1) 1 (rd : Nat) (fun V hV => (hV.2.1.cell 1).trans (I6.c1 _)) rfl) ?_
  simp only [Act.put, pA, pZ, pS]
  refine tkO 3 (.int .u32 (old : Nat)) (by simp only [gT, gZ, gS]; rfl) (puO (by (intro w hSw; (try dsimp only at hSw); go_simp))) ?_
  simp only [Act.put, pA, pZ, pS]
  refine tkO 5 (.pointer (some ⟨w.heap.size, 0, none⟩)) (by simp only [gT, gZ, gS]; rfl) (puO (by (intro w hSw; (try dsimp only at hSw); go_simp))) ?_
  simp only [Act.put, pA, pZ, pS]
  refine tkO 6 (.int .u32 (h.pc : Nat)) (by simp only [gT, gZ, gS]; rfl) (y_word w.heap.size 0 (h.pc : Nat) (fun V hV => hV.1.cell 0) rfl) ?_
  simp only [Act.put, pA, pZ, pS]
  refine tkO 7 (.int .u32 (((h.pc : Nat) + 4 : Int) % 4294967296)) (by simp only [gT, gZ, gS]; rfl) (puO (by (intro w hSw; (try dsimp only at hSw); go_simp ; exact IntKind.wrap_u32 _))) ?_
  simp only [Act.put, pA, pZ, pS]
  refine skO 4 (by simp only [gT, gZ, gS]; rfl) (fun K hK => ?_)
  go_simp
  (with_reducible refine (HWi.out _).mono ?_)
  rintro e V ⟨rfl, hbc⟩
  replace hq := hq.bl hbc
  have hH2 := hide (And.intro (hHeld.1.bl hbc) (And.intro (hHeld.2.1.bl hbc) (below_bl rfl hHeld.2.2 hbc)))
  clear hHeld hbc
  go_simp
  refine hK.out _ _ ?_ (fun hHeld => ?_)
  · exact hH2.out
  clear hK K
  clear hH2
  refine skO 8 (by simp only [gT, gZ, gS]; rfl) (fun K hK => ?_)
  go_simp
  (with_reducible refine (HTo.out _).mono ?_)
  rintro e V ⟨rfl, hbc⟩
  replace hq := hq.bl hbc
  have hH2 := hide (And.intro (hHeld.1.bl hbc) (And.intro (hHeld.2.1.bl hbc) (below_bl rfl hHeld.2.2 hbc)))
  clear hHeld hbc
  go_simp
  refine hK.out _ _ ?_ (fun hHeld => ?_)
  · exact hH2.out
  clear hK K
  clear hH2
  refine skO 9 (by simp only [gT, gZ, gS]; rfl) (fun K hK => ?_)
  rw [if_pos (by rfl)]
  (with_reducible refine s_g (w.heap.size + 2) _ (goH (writeH h rd old) ((h.pc + 4) % 4294967296)) hq ?_ ?_ ?_)
  · exact rfl
  · exact rfl
  intro V hnew ho
  have hH2 := hide (And.intro (hHeld.1.only ho (by omega)) (And.intro (hHeld.2.1.only ho (by omega)) (ho.bel _ _ (by omega) hHeld.2.2)))
  replace hq := hnew
  clear hHeld
  refine hK.out _ _ ?_ (fun hHeld => ?_)
  · exact hH2.out
  clear hK K
  clear hH2
  refine wpAnyH_done (by kernel_rfl) ?_ _
  replace hb := hHeld.2.2
  clear hHeld
  go_wp2
  refine bodyPost_ret (results_cell_row Tryd.results36 _ _ (w.heap.size + 2) _ _ _ _ rfl hq Tryd.underlying28 rfl size_g) rfl ?_
  exact ⟨rfl, hb⟩

end Go.Proofs.YtchjhpeogdkbmaaDoor
