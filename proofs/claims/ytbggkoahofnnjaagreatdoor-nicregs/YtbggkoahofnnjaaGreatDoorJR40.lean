/-
  NicRegs, walked.
-/
import Derived.Test.YtbggkoahofnnjaaGreatDoorJR30
import Derived.Test.YtbggkoahofnnjaaGreatDoorJR33
import Derived.Test.YtbggkoahofnnjaaGreatDoorJR38
import Derived.Test.YtbggkoahofnnjaaGreatDoorJR39
open Go.Proofs.Tryz
set_option linter.unusedVariables false
set_option linter.unusedSimpArgs false
namespace Go.Proofs.YtbggkoahofnnjaaGreatDoor
open Go.RowKit
set_option maxHeartbeats 8000000
theorem y_np {ops : Array Oper} {dst : Option Tmp} {ty : TypeId} {pos : String} {after : Array Edge} {a : Act} {S : World → Prop} {x : Operand} {gd : Option (Nat × Bool)} (b : Nat) (s : Nc) (t' : TypeId) (hS : ∀ V, S V → RowAt V b s.c t') (hx : a.eval x = .pointer (some ⟨b, 0, none⟩)) (hw : Region.wanted ⟨dst, .load 31 x, ty, pos, after, gd⟩ (yielded ops a.tmps) = true) :
    YieldsIf prog ops S ⟨dst, .load 31 x, ty, pos, after, gd⟩ (.agg s.p.cells) a :=
  .inl ⟨hw, fun V hV => by
    have hq := World.rangeAt_of_block (hS V hV) 0 s.p.cells.size
    rw [ext_fp] at hq
    have h := run_loadVar_mid V b 0 31 s.p.cells.toList _ hq underlying31 rfl size_vr
    unfold execOp
    simp only [hx, Instr.loadAt, Instr.sureAddr, Sem.run_bind, Sem.run_pure, Result.andThen_ok, h]⟩
set_option maxRecDepth 20000 in
theorem regs_walk (s : Nc) (ok : s.Ok) (a v : Nat) (hv : v < 4294967296) (w : World) (hO : OffAt w) (hH : HandleAt w) (hA : AreasAt w) :
    Calls prog 3 #[.agg s.c, .int .u32 (a : Nat), .int .u32 (v : Nat)] w fun e w' => e = .returned (.bool true) ∧ Below w.heap.size w w' := by
  have hGB : 2 < w.heap.size := hA.lt
  have HO := hide hO
  have HH := hide hH
  have HA := hide hA
  clear hO hH hA
  have HG := hide (fun s w => gnic_any s w)
  have HS := hide (fun w (hA : AreasAt w) => nsure_any w hA)
  have HW := hide (fun w (hO : OffAt w) => nread_any s ok a w hO)
  have HR := hide (fun w => rnread_any s ok a w)
  have HNE := hide (fun w hg => num_all (nReadV s a).2 w hg)
  generalize nReadV s a = zb at HW HR HNE
  obtain ⟨vr, e0⟩ := zb
  simp only at HW HR HNE
  generalize errR e0 = en at *
  have HWW := hide (fun w (hO : OffAt w) => nwrite_any s ok a v hv w hO)
  have HRW := hide (fun w => rnwrite_any s ok a v hv w)
  have HNF := hide (fun w hg => num_all (nWriteV s a v).2 w hg)
  generalize nWriteV s a v = zc at HWW HRW HNF
  obtain ⟨z, e1⟩ := zc
  simp only at HWW HRW HNF
  generalize errR e1 = en1 at *
  have HC := hide (fun w (hO : OffAt w) => ncheck_any s ok.p w hO)
  have HNC := hide (fun w hg => num_all (if mayV s.p = true then 0 else 1) w hg)
  have HRC := hide (fun w => rvcheck_any s.p ok.p w)
  have HCN : Hid ((if mayV s.p = true then (0 : Int) else 1) = (((if mayV s.p = true then 0 else 1 : Nat)) : Int)) := hide (by split <;> rfl)
  rw [HCN.out] at HRC
  clear HCN
  generalize (if mayV s.p = true then 0 else 1 : Nat) = c at HC HNC HRC
  generalize errR c = ec at *
  go_enter func3, ntmps3
  go_wp2_with (first | ((with_reducible refine bx_nf w.heap.size s ?_ ?_ ?_); exact rfl; exact rfl; intro W hg hb hz) | ((with_reducible refine ld_nf w.heap.size s hg ?_ ?_ ?_); exact rfl; exact rfl) | (go_at_call 7; (with_reducible refine (HG.out _ _).mono ?_); rintro e W ⟨rfl, hbc⟩; replace hg := hg.bl hbc; obtain ⟨NX, hNX⟩ : ∃ n, W.heap.size = n := ⟨_, rfl⟩; have lNX : w.heap.size + 1 ≤ NX := (by (have := hg.lt; omega)); replace hNX := hide hNX; replace hb := below_bl rfl hb hbc) | ((with_reducible refine al_nc NX ?_ ?_); exact hNX.out; intro W hx hb' hz2; replace hg := hg.bl (hNX.out ▸ hb'); replace hb := hb.trans (hb'.mono (by omega))) | ((with_reducible refine st_nc NX _ s hx ?_ ?_ ?_); exact rfl; exact rfl; intro W hnew ho; replace hg := hg.only ho (by omega); replace hx := hnew; replace hb := ho.bel _ _ (by omega) hb) | ((with_reducible refine ld_nc NX s hx ?_ ?_ ?_); exact rfl; exact rfl) | (go_at_call 8; (with_reducible refine (HW.out _ (HO.out.bl hb)).mono ?_); rintro e W ⟨rfl, hbc⟩; replace hg := hg.bl hbc; replace hx := hx.bl hbc; replace hb := below_bl rfl hb hbc) | (go_at_call 9; (with_reducible refine (HR.out _).mono ?_); rintro e W ⟨rfl, hbc⟩; replace hg := hg.bl hbc; replace hx := hx.bl hbc; replace hb := below_bl rfl hb hbc) | (go_at_call 10; (with_reducible refine (HWW.out _ (HO.out.bl hb)).mono ?_); rintro e W ⟨rfl, hbc⟩; replace hg := hg.bl hbc; replace hx := hx.bl hbc; obtain ⟨NY, hNY⟩ : ∃ n, W.heap.size = n := ⟨_, rfl⟩; have lNY : NX + 1 ≤ NY := (by (have := hx.lt; omega)); replace hNY := hide hNY; replace hb := below_bl rfl hb hbc) | ((with_reducible refine al_nc NY ?_ ?_); exact hNY.out; intro W hy hb' hz3; replace hg := hg.bl (hNY.out ▸ hb'); replace hx := hx.bl (hNY.out ▸ hb'); replace hb := hb.trans (hb'.mono (by omega))) | ((with_reducible refine st_nc NY _ z hy ?_ ?_ ?_); exact rfl; exact rfl; intro W hnew ho; replace hg := hg.only ho (by omega); replace hx := hx.only ho (by omega); replace hy := hnew; replace hb := ho.bel _ _ (by omega) hb) | (go_at_call 11; (with_reducible refine (HRW.out _).mono ?_); rintro e W ⟨rfl, hbc⟩; replace hg := hg.bl hbc; replace hx := hx.bl hbc; replace hy := hy.bl hbc; obtain ⟨NZ, hNZ⟩ : ∃ n, W.heap.size = n := ⟨_, rfl⟩; have lNZ : NY + 1 ≤ NZ := (by (have := hy.lt; omega)); replace hNZ := hide hNZ; replace hb := below_bl rfl hb hbc) | ((with_reducible refine al_nf NZ ?_ ?_); exact hNZ.out; intro W hv hb' hz4; replace hg := hg.bl (hNZ.out ▸ hb'); replace hx := hx.bl (hNZ.out ▸ hb'); replace hy := hy.bl (hNZ.out ▸ hb'); replace hb := hb.trans (hb'.mono (by omega))) | ((with_reducible refine st_nf NZ _ z hv ?_ ?_ ?_); exact rfl; exact rfl; intro W hnew ho; replace hg := hg.only ho (by omega); replace hx := hx.only ho (by omega); replace hy := hy.only ho (by omega); replace hv := hnew; replace hb := ho.bel _ _ (by omega) hb))
  refine wp_region_held_drew (S := (fun V => RowAt V NX s.c 41 ∧ RowAt V NY z.c 41 ∧ RowAt V NZ z.c 33 ∧ RowAt V w.heap.size s.c 33 ∧ Below w.heap.size w V)) (by kernel_rfl) ?_ (fun hHeld => ?_)
  · exact ⟨hx.dr, hy.dr, hv.dr, hg.dr, hb.drew⟩
  generalize W.drew = V at hHeld ⊢
  clear hx hg hy hv hb hz
  refine tkO 0 (.int .u32 (vr : Nat)) (by simp only [gT, gZ]; rfl) (puO (by (intro w hSw; (try dsimp only at hSw); go_simp))) ?_
  simp only [Act.put, pA, pZ, pS]
  refine tkO 1 (.int .u32 (vr : Nat)) (by simp only [gT, gZ, gS]; rfl) (puO (by (intro w hSw; (try dsimp only at hSw); go_simp))) ?_
  simp only [Act.put, pA, pZ, pS]
  refine tkO 2 (.bool true) (by simp only [gT, gZ, gS]; rfl) (puO (by (intro w hSw; (try dsimp only at hSw); go_simp))) ?_
  simp only [Act.put, pA, pZ, pS]
  refine tkO 3 (.bool true) (by simp only [gT, gZ, gS]; rfl) (puO (by (intro w hSw; (try dsimp only at hSw); go_simp))) ?_
  simp only [Act.put, pA, pZ, pS]
  refine tkO 4 en (by simp only [gT, gZ, gS]; rfl) (puO (by (intro w hSw; (try dsimp only at hSw); go_simp))) ?_
  simp only [Act.put, pA, pZ, pS]
  refine tkO 6 (.int .i64 (e0 : Nat)) (by simp only [gT, gZ, gS]; rfl) (puO (by (intro w hSw; (try dsimp only at hSw); go_simp))) ?_
  simp only [Act.put, pA, pZ, pS]
  refine skO 5 (by simp only [gT, gZ, gS]; rfl) (fun K hK => ?_)
  rw [if_pos (by rfl)]
  go_simp
  (with_reducible refine (HNE.out _ (HH.out.below hHeld.2.2.2.2)).mono ?_)
  rintro e V ⟨rfl, hbc⟩
  have hH2 := hide (And.intro (hHeld.1.bl hbc) (And.intro (hHeld.2.1.bl hbc) (And.intro (hHeld.2.2.1.bl hbc) (And.intro (hHeld.2.2.2.1.bl hbc) (below_bl rfl hHeld.2.2.2.2 hbc)))))
  clear hHeld hbc
  go_simp
  refine hK.out _ _ ?_ (fun hHeld => ?_)
  · exact hH2.out
  clear hK K
  clear hH2
  refine tkO 7 (.bool true) (by simp only [gT, gZ, gS]; rfl) (puO (by (intro w hSw; (try dsimp only at hSw); go_simp))) ?_
  simp only [Act.put, pA, pZ, pS]
  refine tkO 8 (.bool true) (by simp only [gT, gZ, gS]; rfl) (puO (by (intro w hSw; (try dsimp only at hSw); go_simp))) ?_
  simp only [Act.put, pA, pZ, pS]
  refine tkO 9 (.bool true) (by simp only [gT, gZ, gS]; rfl) (puO (by (intro w hSw; (try dsimp only at hSw); go_simp))) ?_
  simp only [Act.put, pA, pZ, pS]
  refine tkO 10 (.agg z.c) (by simp only [gT, gZ, gS]; rfl) (y_nc NY z (fun V hV => hV.2.1) rfl rfl) ?_
  simp only [Act.put, pA, pZ, pS]
  refine tkO 11 (.agg z.c) (by simp only [gT, gZ, gS]; rfl) (y_nf NZ z (fun V hV => hV.2.2.1) rfl rfl) ?_
  simp only [Act.put, pA, pZ, pS]
  refine skO 12 (by simp only [gT, gZ, gS]; rfl) (fun K hK => ?_)
  rw [if_pos (by rfl)]
  go_simp
  (with_reducible refine (HG.out _ _).mono ?_)
  rintro e V ⟨rfl, hbc⟩
  have hH2 := hide (And.intro (hHeld.1.bl hbc) (And.intro (hHeld.2.1.bl hbc) (And.intro (hHeld.2.2.1.bl hbc) (And.intro (hHeld.2.2.2.1.bl hbc) (below_bl rfl hHeld.2.2.2.2 hbc)))))
  clear hHeld hbc
  go_simp
  refine hK.out _ _ ?_ (fun hHeld => ?_)
  · exact hH2.out
  clear hK K
  clear hH2
  refine tkO 13 (.bool true) (by simp only [gT, gZ, gS]; rfl) (y_eqn z rfl rfl rfl) ?_
  simp only [Act.put, pA, pZ, pS]
  refine tkO 14 (.bool true) (by simp only [gT, gZ, gS]; rfl) (puO (by (intro w hSw; (try dsimp only at hSw); go_simp))) ?_
  simp only [Act.put, pA, pZ, pS]
  refine tkO 15 (.bool true) (by simp only [gT, gZ, gS]; rfl) (puO (by (intro w hSw; (try dsimp only at hSw); go_simp))) ?_
  simp only [Act.put, pA, pZ, pS]
  refine tkO 16 (en1) (by simp only [gT, gZ, gS]; rfl) (puO (by (intro w hSw; (try dsimp only at hSw); go_simp))) ?_
  simp only [Act.put, pA, pZ, pS]
  refine tkO 18 (.int .i64 (e1 : Nat)) (by simp only [gT, gZ, gS]; rfl) (puO (by (intro w hSw; (try dsimp only at hSw); go_simp))) ?_
  simp only [Act.put, pA, pZ, pS]
  refine skO 17 (by simp only [gT, gZ, gS]; rfl) (fun K hK => ?_)
  rw [if_pos (by rfl)]
  go_simp
  (with_reducible refine (HNF.out _ (HH.out.below hHeld.2.2.2.2)).mono ?_)
  rintro e V ⟨rfl, hbc⟩
  have hH2 := hide (And.intro (hHeld.1.bl hbc) (And.intro (hHeld.2.1.bl hbc) (And.intro (hHeld.2.2.1.bl hbc) (And.intro (hHeld.2.2.2.1.bl hbc) (below_bl rfl hHeld.2.2.2.2 hbc)))))
  clear hHeld hbc
  go_simp
  refine hK.out _ _ ?_ (fun hHeld => ?_)
  · exact hH2.out
  clear hK K
  clear hH2
  refine tkO 19 (.bool true) (by simp only [gT, gZ, gS]; rfl) (puO (by (intro w hSw; (try dsimp only at hSw); go_simp))) ?_
  simp only [Act.put, pA, pZ, pS]
  refine tkO 20 (.bool true) (by simp only [gT, gZ, gS]; rfl) (puO (by (intro w hSw; (try dsimp only at hSw); go_simp))) ?_
  simp only [Act.put, pA, pZ, pS]
  refine tkO 21 (.bool true) (by simp only [gT, gZ, gS]; rfl) (puO (by (intro w hSw; (try dsimp only at hSw); go_simp))) ?_
  simp only [Act.put, pA, pZ, pS]
  refine tkO 22 (.agg s.c) (by simp only [gT, gZ, gS]; rfl) (y_nc NX s (fun V hV => hV.1) rfl rfl) ?_
  simp only [Act.put, pA, pZ, pS]
  refine tkO 25 (.pointer (some ⟨w.heap.size, 0, none⟩)) (by simp only [gT, gZ, gS]; rfl) (puO (by (intro w hSw; (try dsimp only at hSw); go_simp))) ?_
  simp only [Act.put, pA, pZ, pS]
  refine tkO 26 (.agg s.p.cells) (by simp only [gT, gZ, gS]; rfl) (y_np w.heap.size s _ (fun V hV => hV.2.2.2.1) rfl rfl) ?_
  simp only [Act.put, pA, pZ, pS]
  refine skO 23 (by simp only [gT, gZ, gS]; rfl) (fun K hK => ?_)
  rw [if_pos (by rfl)]
  go_simp
  (with_reducible refine (HC.out _ (HO.out.bl hHeld.2.2.2.2)).mono ?_)
  rintro e V ⟨rfl, hbc⟩
  have hH2 := hide (And.intro (hHeld.1.bl hbc) (And.intro (hHeld.2.1.bl hbc) (And.intro (hHeld.2.2.1.bl hbc) (And.intro (hHeld.2.2.2.1.bl hbc) (below_bl rfl hHeld.2.2.2.2 hbc)))))
  clear hHeld hbc
  go_simp
  refine hK.out _ _ ?_ (fun hHeld => ?_)
  · exact hH2.out
  clear hK K
  clear hH2
  refine skO 24 (by simp only [gT, gZ, gS]; rfl) (fun K hK => ?_)
  rw [if_pos (by rfl)]
  go_simp
  (with_reducible refine (HNC.out _ (HH.out.below hHeld.2.2.2.2)).mono ?_)
  rintro e V ⟨rfl, hbc⟩
  have hH2 := hide (And.intro (hHeld.1.bl hbc) (And.intro (hHeld.2.1.bl hbc) (And.intro (hHeld.2.2.1.bl hbc) (And.intro (hHeld.2.2.2.1.bl hbc) (below_bl rfl hHeld.2.2.2.2 hbc)))))
  clear hHeld hbc
  go_simp
  refine hK.out _ _ ?_ (fun hHeld => ?_)
  · exact hH2.out
  clear hK K
  clear hH2
  refine skO 27 (by simp only [gT, gZ, gS]; rfl) (fun K hK => ?_)
  rw [if_pos (by rfl)]
  go_simp
  (with_reducible refine (HRC.out _).mono ?_)
  rintro e V ⟨rfl, hbc⟩
  have hH2 := hide (And.intro (hHeld.1.bl hbc) (And.intro (hHeld.2.1.bl hbc) (And.intro (hHeld.2.2.1.bl hbc) (And.intro (hHeld.2.2.2.1.bl hbc) (below_bl rfl hHeld.2.2.2.2 hbc)))))
  clear hHeld hbc
  go_simp
  refine hK.out _ _ ?_ (fun hHeld => ?_)
  · exact hH2.out
  clear hK K
  clear hH2
  refine tkO 28 (.bool true) (by simp only [gT, gZ, gS]; rfl) (puO (by (intro w hSw; (try dsimp only at hSw); go_simp))) ?_
  simp only [Act.put, pA, pZ, pS]
  refine tkO 29 (.bool true) (by simp only [gT, gZ, gS]; rfl) (puO (by (intro w hSw; (try dsimp only at hSw); go_simp))) ?_
  simp only [Act.put, pA, pZ, pS]
  refine tkO 30 (.bool true) (by simp only [gT, gZ, gS]; rfl) (puO (by (intro w hSw; (try dsimp only at hSw); go_simp))) ?_
  simp only [Act.put, pA, pZ, pS]
  refine skO 31 (by simp only [gT, gZ, gS]; rfl) (fun K hK => ?_)
  rw [if_pos (by rfl)]
  go_simp
  (with_reducible refine (HS.out _ (HA.out.belR hGB hHeld.2.2.2.2)).mono ?_)
  rintro e V ⟨rfl, hbc⟩
  have hH2 := hide (And.intro (hHeld.1.bl hbc) (And.intro (hHeld.2.1.bl hbc) (And.intro (hHeld.2.2.1.bl hbc) (And.intro (hHeld.2.2.2.1.bl hbc) (below_bl rfl hHeld.2.2.2.2 hbc)))))
  clear hHeld hbc
  go_simp
  refine hK.out _ _ ?_ (fun hHeld => ?_)
  · exact hH2.out
  clear hK K
  clear hH2
  refine tkO 32 (.bool true) (by simp only [gT, gZ, gS]; rfl) (puO (by (intro w hSw; (try dsimp only at hSw); go_simp))) ?_
  simp only [Act.put, pA, pZ, pS]
  refine tkO 33 (.bool true) (by simp only [gT, gZ, gS]; rfl) (puO (by (intro w hSw; (try dsimp only at hSw); go_simp))) ?_
  simp only [Act.put, pA, pZ, pS]
  refine wpAnyH_done (by kernel_rfl) ?_ _
  have hb := hHeld.2.2.2.2
  clear hHeld
  go_wp2
  go_ret
  exact ⟨rfl, hb⟩
end Go.Proofs.YtbggkoahofnnjaaGreatDoor
