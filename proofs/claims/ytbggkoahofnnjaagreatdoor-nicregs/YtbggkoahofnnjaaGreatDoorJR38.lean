/-
  What the document's Read and Write of a net device answer.
-/
import Derived.Test.YtbggkoahofnnjaaGreatDoorJR28
import Derived.Test.YtbggkoahofnnjaaGreatDoorJR37
open Go.Proofs.Tryz
set_option linter.unusedVariables false
set_option linter.unusedSimpArgs false
namespace Go.Proofs.YtbggkoahofnnjaaGreatDoor
open Go.RowKit
set_option maxHeartbeats 4000000
variable {ops : Array Oper} {rest : List Oper} {dst : Option Tmp} {ty : TypeId} {pos : String} {after : Array Edge} {a : Act} {w : World} {Q : Exit → Act → World → Prop} {x y : Operand} {b : Nat} {S : World → Prop} {K : Act → World → Prop} {gd : Option (Nat × Bool)}
theorem ext_fp (s : Nc) : (s.c.extract 0 (0 + s.p.cells.size)).toList = s.p.cells.toList := by kernel_rfl
theorem ld_fp (b : Nat) (h : Nc) (t' : TypeId) (hr : RowAt w b h.c t') (hx : a.eval x = .pointer (some ⟨b, 0, none⟩)) (hw : Region.wanted ⟨dst, .load 31 x, ty, pos, after, gd⟩ (yielded ops a.tmps) = true)
    (k : wpList prog ops Q rest (a.put dst (.agg h.p.cells)) w) : wpList prog ops Q (⟨dst, .load 31 x, ty, pos, after, gd⟩ :: rest) a w :=
  BigFrame.wpList_want hw fun K hK => wp_load_mid 31 x rfl b 0 hx h.p.cells.toList _ (ext_fp h ▸ World.rangeAt_of_block hr 0 h.p.cells.size) underlying31 rfl size_vr (hK _ _ k)
theorem st_fp (b : Nat) (h : Nc) (f : V) (t' : TypeId) (hr : RowAt w b h.c t') (hx : a.eval x = .pointer (some ⟨b, 0, none⟩)) (hy : a.eval y = .agg f.cells)
    (k : ∀ W, RowAt W b (h.pw f).c t' → Only b w W → wpList prog ops Q rest (a.put dst undef) W) : wpList prog ops Q (⟨dst, .store 31 x y, ty, pos, after, none⟩ :: rest) a w :=
  op_store_mid b 0 hx f.cells hy h.c _ _ hr size_vr (by show 0 + 21 ≤ 23; decide) (vi_one f) (putAll_np h f) k
theorem rnread_any (s : Nc) (ok : s.Ok) (a : Nat) (w : World) : Calls prog 9 #[.agg s.c, .int .u32 (a : Nat)] w fun e w' => e = .returned (.tuple #[.int .u32 ((nReadV s a).1 : Nat), .int .i64 ((nReadV s a).2 : Nat)]) ∧ Below w.heap.size w w' := by
  unfold nReadV
  by_cases h1 : a < 256
  · rw [if_neg (by omega), isOw_lo h1, if_neg (by decide), if_neg (by omega)]
    have l1 : decide ((a : Int) < 256) = true := by simp; omega
    have HV : Hid (∀ W, Calls prog 25 #[.agg s.p.cells, .int .u32 1, .int .u32 (a : Nat)] W fun e w' => e = .returned (.tuple #[.int .u32 ((vreadV s.p 1 a).1 : Nat), .int .i64 ((vreadV s.p 1 a).2 : Nat)]) ∧ Below W.heap.size W w') := hide (fun W => vrread_any s.p ok.p 1 a W)
    generalize vreadV s.p 1 a = zz at *
    obtain ⟨v0, e0⟩ := zz
    simp only at HV ⊢
    go_enter func9, ntmps9
    go_wp2_with (first | ((with_reducible refine bx_nf w.heap.size s ?_ ?_ ?_); exact rfl; exact rfl; intro W hr hb hz) | ((with_reducible refine ld_fp w.heap.size s _ hr ?_ ?_ ?_); exact rfl; exact rfl) | (go_at_call 25; (with_reducible refine (HV.out _).mono ?_); rintro e W ⟨rfl, hbc⟩; replace hb := below_bl rfl hb hbc))
    go_ret2
    exact ⟨rfl, hb⟩
  · have HG : isOw a = (decide (a < 512) && decide (a % 4 = 0)) := by unfold isOw; rw [decide_eq_true (by omega), Bool.true_and]
    rw [HG]
    clear HG
    have l1 : decide ((a : Int) < 256) = false := by simp; omega
    by_cases h2 : a < 512
    · rw [decide_eq_true h2, Bool.true_and]
      have l2 : decide ((511 : Int) < (a : Int)) = false := by simp; omega
      have l2b : decide ((a : Int) > 511) = false := by simp; omega
      by_cases h4 : a % 4 = 0
      · rw [decide_eq_true h4, if_pos rfl]
        have l3 : (((a : Int) % 4) != 0) = false := by simp; omega
        have l3b : ((((a % 4 : Nat)) : Int) != 0) = false := by simp; omega
        by_cases h0 : a = 256
        · rw [if_pos h0]
          have l0 : (((a : Int)) == 256) = true := by simp; omega
          clear h0 h4
          go_enter func9, ntmps9
          go_wp2_with (first | ((with_reducible refine bx_nf w.heap.size s ?_ ?_ ?_); exact rfl; exact rfl; intro W hr hb hz) | ((with_reducible refine ld_nlo w.heap.size s _ hr ?_ ?_ ?_); exact rfl; exact rfl))
          go_ret2
          exact ⟨rfl, hb⟩
        · rw [if_neg h0]
          have l0 : (((a : Int)) == 256) = false := by simp; omega
          clear h0 h4
          go_enter func9, ntmps9
          go_wp2_with (first | ((with_reducible refine bx_nf w.heap.size s ?_ ?_ ?_); exact rfl; exact rfl; intro W hr hb hz))
          go_ret2
          exact ⟨rfl, hb⟩
      · rw [decide_eq_false h4, if_neg (by omega), if_neg (by decide), if_pos (by omega)]
        have l3 : (((a : Int) % 4) != 0) = true := by simp; omega
        have l3b : ((((a % 4 : Nat)) : Int) != 0) = true := by simp; omega
        clear h4
        go_enter func9, ntmps9
        go_wp2_with (first | ((with_reducible refine bx_nf w.heap.size s ?_ ?_ ?_); exact rfl; exact rfl; intro W hr hb hz))
        go_ret2
        exact ⟨rfl, hb⟩
    · rw [decide_eq_false h2, Bool.false_and, if_neg (by omega), if_neg (by decide), if_pos (by omega)]
      have l2 : decide ((511 : Int) < (a : Int)) = true := by simp; omega
      have l2b : decide ((a : Int) > 511) = true := by simp; omega
      go_enter func9, ntmps9
      go_wp2_with (first | ((with_reducible refine bx_nf w.heap.size s ?_ ?_ ?_); exact rfl; exact rfl; intro W hr hb hz))
      go_ret2
      exact ⟨rfl, hb⟩
set_option maxRecDepth 20000 in
theorem rnwrite_any (s : Nc) (ok : s.Ok) (a v : Nat) (hv : v < 4294967296) (w : World) : Calls prog 11 #[.agg s.c, .int .u32 (a : Nat), .int .u32 (v : Nat)] w fun e w' => e = .returned (.tuple #[.agg (nWriteV s a v).1.c, .int .i64 ((nWriteV s a v).2 : Nat)]) ∧ Below w.heap.size w w' := by
  unfold nWriteV
  by_cases h1 : 256 ≤ a
  · have HG : isOw a = (decide (a < 512) && decide (a % 4 = 0)) := by unfold isOw; rw [decide_eq_true h1, Bool.true_and]
    have l1 : decide ((255 : Int) < (a : Int)) = true := by simp; omega
    have l1b : decide ((a : Int) > 255) = true := by simp; omega
    rw [HG]
    clear HG
    by_cases h2 : a < 512
    · rw [decide_eq_true h2, Bool.true_and]
      have l2 : decide ((511 : Int) < (a : Int)) = false := by simp; omega
      have l2b : decide ((a : Int) > 511) = false := by simp; omega
      by_cases h4 : a % 4 = 0
      · rw [decide_eq_true h4, if_pos rfl]
        have l3 : (((a : Int) % 4) != 0) = false := by simp; omega
        have l3b : ((((a % 4 : Nat)) : Int) != 0) = false := by simp; omega
        clear h4
        go_enter func11, ntmps11
        go_wp2_with (first | ((with_reducible refine bx_nf w.heap.size s ?_ ?_ ?_); exact rfl; exact rfl; intro W hr hb hz) | ((with_reducible refine al_nf (w.heap.size + 1) ?_ ?_); exact hz.out; intro W hq hb' hz'; replace hr := hr.bl (hz.out ▸ hb'); replace hb := hb.trans (hb'.mono (by omega)); clear hb' hz') | ((with_reducible refine ld_nf w.heap.size s hr ?_ ?_ ?_); exact rfl; exact rfl) | ((with_reducible refine st_nf (w.heap.size + 1) _ s hq ?_ ?_ ?_); exact rfl; exact rfl; intro W hnew ho; replace hr := hr.only ho (by omega); replace hq := hnew; replace hb := ho.bel _ _ (by omega) hb; clear hnew ho))
        refine bodyPost_ret (results_cell_one' results11 _ _ (w.heap.size + 1) _ _ _ rfl hq underlying33 rfl size_nf) rfl ?_
        exact ⟨rfl, hb⟩
      · rw [decide_eq_false h4, if_neg (by decide), if_pos h1]
        have l3 : (((a : Int) % 4) != 0) = true := by simp; omega
        have l3b : ((((a % 4 : Nat)) : Int) != 0) = true := by simp; omega
        clear h4
        go_enter func11, ntmps11
        go_wp2_with (first | ((with_reducible refine bx_nf w.heap.size s ?_ ?_ ?_); exact rfl; exact rfl; intro W hr hb hz) | ((with_reducible refine al_nf (w.heap.size + 1) ?_ ?_); exact hz.out; intro W hq hb' hz'; replace hr := hr.bl (hz.out ▸ hb'); replace hb := hb.trans (hb'.mono (by omega)); clear hb' hz') | ((with_reducible refine st_nf (w.heap.size + 1) _ zeroNc hq ?_ ?_ ?_); exact rfl; exact rfl; intro W hnew ho; replace hr := hr.only ho (by omega); replace hq := hnew; replace hb := ho.bel _ _ (by omega) hb; clear hnew ho))
        refine bodyPost_ret (results_cell_one' results11 _ _ (w.heap.size + 1) _ _ _ rfl hq underlying33 rfl size_nf) rfl ?_
        exact ⟨rfl, hb⟩
    · rw [decide_eq_false h2, Bool.false_and, if_neg (by decide), if_pos h1]
      have l2 : decide ((511 : Int) < (a : Int)) = true := by simp; omega
      have l2b : decide ((a : Int) > 511) = true := by simp; omega
      go_enter func11, ntmps11
      go_wp2_with (first | ((with_reducible refine bx_nf w.heap.size s ?_ ?_ ?_); exact rfl; exact rfl; intro W hr hb hz) | ((with_reducible refine al_nf (w.heap.size + 1) ?_ ?_); exact hz.out; intro W hq hb' hz'; replace hr := hr.bl (hz.out ▸ hb'); replace hb := hb.trans (hb'.mono (by omega)); clear hb' hz') | ((with_reducible refine st_nf (w.heap.size + 1) _ zeroNc hq ?_ ?_ ?_); exact rfl; exact rfl; intro W hnew ho; replace hr := hr.only ho (by omega); replace hq := hnew; replace hb := ho.bel _ _ (by omega) hb; clear hnew ho))
      refine bodyPost_ret (results_cell_one' results11 _ _ (w.heap.size + 1) _ _ _ rfl hq underlying33 rfl size_nf) rfl ?_
      exact ⟨rfl, hb⟩
  · rw [isOw_lo (by omega), if_neg (by decide), if_neg h1]
    have l1 : decide ((255 : Int) < (a : Int)) = false := by simp; omega
    have l1b : decide ((a : Int) > 255) = false := by simp; omega
    have HV : Hid (∀ W, Below w.heap.size w W → Calls prog 27 #[.agg s.p.cells, .int .u32 (a : Nat), .int .u32 (v : Nat)] W fun e w' => e = .returned (.tuple #[.agg (writeV s.p a v).1.cells, .int .i64 (writeV s.p a v).2.1, .int .i64 ((writeV s.p a v).2.2 : Nat)]) ∧ Below W.heap.size W w') := hide (fun W hb => rwrite_any s.p ok.p a v hv W)
    generalize writeV s.p a v = zz at *
    obtain ⟨p1, n1, e0⟩ := zz
    simp only at HV ⊢
    by_cases he : e0 = 0
    · subst he
      rw [if_pos rfl]
      simp only [show (((0 : Nat) : Int)) = 0 from rfl] at HV ⊢
      by_cases hn : n1 = 1
      · have l8 : (n1 == 1) = true := by simp; omega
        by_cases hst : p1.st = 0
        · rw [show nWr s p1 n1 = ⟨p1, false, 0⟩ by unfold nWr; rw [if_pos hst]]
          have l9 : ((p1.st : Int) == 0) = true := by simp; omega
          clear hst hn
          go_enter func11, ntmps11
          go_wp2_with (first | ((with_reducible refine bx_nf w.heap.size s ?_ ?_ ?_); exact rfl; exact rfl; intro W hr hb hz) | ((with_reducible refine al_nf (w.heap.size + 1) ?_ ?_); exact hz.out; intro W hq hb' hz'; replace hr := hr.bl (hz.out ▸ hb'); replace hb := hb.trans (hb'.mono (by omega)); clear hb' hz') | ((with_reducible refine ld_fp w.heap.size s _ hr ?_ ?_ ?_); exact rfl; exact rfl) | (go_at_call 27; (with_reducible refine (HV.out _ hb).mono ?_); rintro e W2 ⟨rfl, hbc⟩; replace hr := hr.bl hbc; replace hq := hq.bl hbc; replace hb := below_bl rfl hb hbc; obtain ⟨NX, hNX0⟩ : ∃ n, W2.heap.size = n := ⟨_, rfl⟩; have hNX := hide hNX0; (have hNl : w.heap.size + 2 ≤ NX := (by have := hq.lt; omega)); clear hNX0 hbc) | ((with_reducible refine al_vr NX ?_ ?_); exact hNX.out; intro W hp hb' hz2; replace hr := hr.bl (hNX.out ▸ hb'); replace hq := hq.bl (hNX.out ▸ hb'); replace hb := hb.trans (hb'.mono (by omega)); clear hb' hz2) | ((with_reducible refine st_vr NX _ p1 hp ?_ ?_ ?_); exact rfl; exact rfl; intro W hnew ho; replace hr := hr.only ho (by omega); replace hq := hq.only ho (by omega); replace hp := hnew; replace hb := ho.bel _ _ (by omega) hb; clear hnew ho) | ((with_reducible refine ld_vr NX p1 hp ?_ ?_ ?_); exact rfl; exact rfl) | ((with_reducible refine st_fp w.heap.size s p1 _ hr ?_ ?_ ?_); exact rfl; exact rfl; intro W hnew ho; replace hq := hq.only ho (by omega); replace hp := hp.only ho (by omega); replace hr := hnew; replace hb := ho.bel _ _ (by omega) hb; clear hnew ho) | ((with_reducible refine st_nbe w.heap.size (s.pw p1) true _ hr ?_ ?_ ?_); exact rfl; exact rfl; intro W hnew ho; replace hq := hq.only ho (by omega); replace hp := hp.only ho (by omega); replace hr := hnew; replace hb := ho.bel _ _ (by omega) hb; clear hnew ho) | ((with_reducible refine ld_st NX p1 _ hp ?_ ?_ ?_); exact rfl; exact rfl) | ((with_reducible refine st_nbe w.heap.size ((s.pw p1).bw true) false _ hr ?_ ?_ ?_); exact rfl; exact rfl; intro W hnew ho; replace hq := hq.only ho (by omega); replace hp := hp.only ho (by omega); replace hr := hnew; replace hb := ho.bel _ _ (by omega) hb; clear hnew ho) | ((with_reducible refine st_nlo w.heap.size (((s.pw p1).bw true).bw false) 0 _ hr ?_ ?_ ?_); exact rfl; exact rfl; intro W hnew ho; replace hq := hq.only ho (by omega); replace hp := hp.only ho (by omega); replace hr := hnew; replace hb := ho.bel _ _ (by omega) hb; clear hnew ho) | ((with_reducible refine ld_nf w.heap.size ((((s.pw p1).bw true).bw false).lw 0) hr ?_ ?_ ?_); exact rfl; exact rfl) | ((with_reducible refine st_nf (w.heap.size + 1) _ ((((s.pw p1).bw true).bw false).lw 0) hq ?_ ?_ ?_); exact rfl; exact rfl; intro W hnew ho; replace hr := hr.only ho (by omega); replace hp := hp.only ho (by omega); replace hq := hnew; replace hb := ho.bel _ _ (by omega) hb; clear hnew ho))
          refine bodyPost_ret (results_cell_one' results11 _ _ (w.heap.size + 1) _ _ _ rfl hq underlying33 rfl size_nf) rfl ?_
          exact ⟨rfl, hb⟩
        · rw [show nWr s p1 n1 = ⟨p1, true, s.lo⟩ by unfold nWr; rw [if_neg hst, if_pos hn]]
          have l9 : ((p1.st : Int) == 0) = false := by simp; omega
          clear hst hn
          go_enter func11, ntmps11
          go_wp2_with (first | ((with_reducible refine bx_nf w.heap.size s ?_ ?_ ?_); exact rfl; exact rfl; intro W hr hb hz) | ((with_reducible refine al_nf (w.heap.size + 1) ?_ ?_); exact hz.out; intro W hq hb' hz'; replace hr := hr.bl (hz.out ▸ hb'); replace hb := hb.trans (hb'.mono (by omega)); clear hb' hz') | ((with_reducible refine ld_fp w.heap.size s _ hr ?_ ?_ ?_); exact rfl; exact rfl) | (go_at_call 27; (with_reducible refine (HV.out _ hb).mono ?_); rintro e W2 ⟨rfl, hbc⟩; replace hr := hr.bl hbc; replace hq := hq.bl hbc; replace hb := below_bl rfl hb hbc; obtain ⟨NX, hNX0⟩ : ∃ n, W2.heap.size = n := ⟨_, rfl⟩; have hNX := hide hNX0; (have hNl : w.heap.size + 2 ≤ NX := (by have := hq.lt; omega)); clear hNX0 hbc) | ((with_reducible refine al_vr NX ?_ ?_); exact hNX.out; intro W hp hb' hz2; replace hr := hr.bl (hNX.out ▸ hb'); replace hq := hq.bl (hNX.out ▸ hb'); replace hb := hb.trans (hb'.mono (by omega)); clear hb' hz2) | ((with_reducible refine st_vr NX _ p1 hp ?_ ?_ ?_); exact rfl; exact rfl; intro W hnew ho; replace hr := hr.only ho (by omega); replace hq := hq.only ho (by omega); replace hp := hnew; replace hb := ho.bel _ _ (by omega) hb; clear hnew ho) | ((with_reducible refine ld_vr NX p1 hp ?_ ?_ ?_); exact rfl; exact rfl) | ((with_reducible refine st_fp w.heap.size s p1 _ hr ?_ ?_ ?_); exact rfl; exact rfl; intro W hnew ho; replace hq := hq.only ho (by omega); replace hp := hp.only ho (by omega); replace hr := hnew; replace hb := ho.bel _ _ (by omega) hb; clear hnew ho) | ((with_reducible refine st_nbe w.heap.size (s.pw p1) true _ hr ?_ ?_ ?_); exact rfl; exact rfl; intro W hnew ho; replace hq := hq.only ho (by omega); replace hp := hp.only ho (by omega); replace hr := hnew; replace hb := ho.bel _ _ (by omega) hb; clear hnew ho) | ((with_reducible refine ld_st NX p1 _ hp ?_ ?_ ?_); exact rfl; exact rfl) | ((with_reducible refine ld_nf w.heap.size ((s.pw p1).bw true) hr ?_ ?_ ?_); exact rfl; exact rfl) | ((with_reducible refine st_nf (w.heap.size + 1) _ ((s.pw p1).bw true) hq ?_ ?_ ?_); exact rfl; exact rfl; intro W hnew ho; replace hr := hr.only ho (by omega); replace hp := hp.only ho (by omega); replace hq := hnew; replace hb := ho.bel _ _ (by omega) hb; clear hnew ho))
          refine bodyPost_ret (results_cell_one' results11 _ _ (w.heap.size + 1) _ _ _ rfl hq underlying33 rfl size_nf) rfl ?_
          exact ⟨rfl, hb⟩
      · have l8 : (n1 == 1) = false := by simp; omega
        by_cases hst : p1.st = 0
        · rw [show nWr s p1 n1 = ⟨p1, false, 0⟩ by unfold nWr; rw [if_pos hst]]
          have l9 : ((p1.st : Int) == 0) = true := by simp; omega
          clear hst hn
          go_enter func11, ntmps11
          go_wp2_with (first | ((with_reducible refine bx_nf w.heap.size s ?_ ?_ ?_); exact rfl; exact rfl; intro W hr hb hz) | ((with_reducible refine al_nf (w.heap.size + 1) ?_ ?_); exact hz.out; intro W hq hb' hz'; replace hr := hr.bl (hz.out ▸ hb'); replace hb := hb.trans (hb'.mono (by omega)); clear hb' hz') | ((with_reducible refine ld_fp w.heap.size s _ hr ?_ ?_ ?_); exact rfl; exact rfl) | (go_at_call 27; (with_reducible refine (HV.out _ hb).mono ?_); rintro e W2 ⟨rfl, hbc⟩; replace hr := hr.bl hbc; replace hq := hq.bl hbc; replace hb := below_bl rfl hb hbc; obtain ⟨NX, hNX0⟩ : ∃ n, W2.heap.size = n := ⟨_, rfl⟩; have hNX := hide hNX0; (have hNl : w.heap.size + 2 ≤ NX := (by have := hq.lt; omega)); clear hNX0 hbc) | ((with_reducible refine al_vr NX ?_ ?_); exact hNX.out; intro W hp hb' hz2; replace hr := hr.bl (hNX.out ▸ hb'); replace hq := hq.bl (hNX.out ▸ hb'); replace hb := hb.trans (hb'.mono (by omega)); clear hb' hz2) | ((with_reducible refine st_vr NX _ p1 hp ?_ ?_ ?_); exact rfl; exact rfl; intro W hnew ho; replace hr := hr.only ho (by omega); replace hq := hq.only ho (by omega); replace hp := hnew; replace hb := ho.bel _ _ (by omega) hb; clear hnew ho) | ((with_reducible refine ld_vr NX p1 hp ?_ ?_ ?_); exact rfl; exact rfl) | ((with_reducible refine st_fp w.heap.size s p1 _ hr ?_ ?_ ?_); exact rfl; exact rfl; intro W hnew ho; replace hq := hq.only ho (by omega); replace hp := hp.only ho (by omega); replace hr := hnew; replace hb := ho.bel _ _ (by omega) hb; clear hnew ho) | ((with_reducible refine ld_st NX p1 _ hp ?_ ?_ ?_); exact rfl; exact rfl) | ((with_reducible refine st_nbe w.heap.size (s.pw p1) false _ hr ?_ ?_ ?_); exact rfl; exact rfl; intro W hnew ho; replace hq := hq.only ho (by omega); replace hp := hp.only ho (by omega); replace hr := hnew; replace hb := ho.bel _ _ (by omega) hb; clear hnew ho) | ((with_reducible refine st_nlo w.heap.size ((s.pw p1).bw false) 0 _ hr ?_ ?_ ?_); exact rfl; exact rfl; intro W hnew ho; replace hq := hq.only ho (by omega); replace hp := hp.only ho (by omega); replace hr := hnew; replace hb := ho.bel _ _ (by omega) hb; clear hnew ho) | ((with_reducible refine ld_nf w.heap.size (((s.pw p1).bw false).lw 0) hr ?_ ?_ ?_); exact rfl; exact rfl) | ((with_reducible refine st_nf (w.heap.size + 1) _ (((s.pw p1).bw false).lw 0) hq ?_ ?_ ?_); exact rfl; exact rfl; intro W hnew ho; replace hr := hr.only ho (by omega); replace hp := hp.only ho (by omega); replace hq := hnew; replace hb := ho.bel _ _ (by omega) hb; clear hnew ho))
          refine bodyPost_ret (results_cell_one' results11 _ _ (w.heap.size + 1) _ _ _ rfl hq underlying33 rfl size_nf) rfl ?_
          exact ⟨rfl, hb⟩
        · rw [show nWr s p1 n1 = ⟨p1, s.be, s.lo⟩ by unfold nWr; rw [if_neg hst, if_neg hn]]
          have l9 : ((p1.st : Int) == 0) = false := by simp; omega
          clear hst hn
          go_enter func11, ntmps11
          go_wp2_with (first | ((with_reducible refine bx_nf w.heap.size s ?_ ?_ ?_); exact rfl; exact rfl; intro W hr hb hz) | ((with_reducible refine al_nf (w.heap.size + 1) ?_ ?_); exact hz.out; intro W hq hb' hz'; replace hr := hr.bl (hz.out ▸ hb'); replace hb := hb.trans (hb'.mono (by omega)); clear hb' hz') | ((with_reducible refine ld_fp w.heap.size s _ hr ?_ ?_ ?_); exact rfl; exact rfl) | (go_at_call 27; (with_reducible refine (HV.out _ hb).mono ?_); rintro e W2 ⟨rfl, hbc⟩; replace hr := hr.bl hbc; replace hq := hq.bl hbc; replace hb := below_bl rfl hb hbc; obtain ⟨NX, hNX0⟩ : ∃ n, W2.heap.size = n := ⟨_, rfl⟩; have hNX := hide hNX0; (have hNl : w.heap.size + 2 ≤ NX := (by have := hq.lt; omega)); clear hNX0 hbc) | ((with_reducible refine al_vr NX ?_ ?_); exact hNX.out; intro W hp hb' hz2; replace hr := hr.bl (hNX.out ▸ hb'); replace hq := hq.bl (hNX.out ▸ hb'); replace hb := hb.trans (hb'.mono (by omega)); clear hb' hz2) | ((with_reducible refine st_vr NX _ p1 hp ?_ ?_ ?_); exact rfl; exact rfl; intro W hnew ho; replace hr := hr.only ho (by omega); replace hq := hq.only ho (by omega); replace hp := hnew; replace hb := ho.bel _ _ (by omega) hb; clear hnew ho) | ((with_reducible refine ld_vr NX p1 hp ?_ ?_ ?_); exact rfl; exact rfl) | ((with_reducible refine st_fp w.heap.size s p1 _ hr ?_ ?_ ?_); exact rfl; exact rfl; intro W hnew ho; replace hq := hq.only ho (by omega); replace hp := hp.only ho (by omega); replace hr := hnew; replace hb := ho.bel _ _ (by omega) hb; clear hnew ho) | ((with_reducible refine ld_st NX p1 _ hp ?_ ?_ ?_); exact rfl; exact rfl) | ((with_reducible refine ld_nf w.heap.size (s.pw p1) hr ?_ ?_ ?_); exact rfl; exact rfl) | ((with_reducible refine st_nf (w.heap.size + 1) _ (s.pw p1) hq ?_ ?_ ?_); exact rfl; exact rfl; intro W hnew ho; replace hr := hr.only ho (by omega); replace hp := hp.only ho (by omega); replace hq := hnew; replace hb := ho.bel _ _ (by omega) hb; clear hnew ho))
          refine bodyPost_ret (results_cell_one' results11 _ _ (w.heap.size + 1) _ _ _ rfl hq underlying33 rfl size_nf) rfl ?_
          exact ⟨rfl, hb⟩
    · rw [if_neg he]
      have l7 : ((e0 : Int) != 0) = true := by simp; omega
      clear he
      go_enter func11, ntmps11
      go_wp2_with (first | ((with_reducible refine bx_nf w.heap.size s ?_ ?_ ?_); exact rfl; exact rfl; intro W hr hb hz) | ((with_reducible refine al_nf (w.heap.size + 1) ?_ ?_); exact hz.out; intro W hq hb' hz'; replace hr := hr.bl (hz.out ▸ hb'); replace hb := hb.trans (hb'.mono (by omega)); clear hb' hz') | ((with_reducible refine ld_fp w.heap.size s _ hr ?_ ?_ ?_); exact rfl; exact rfl) | (go_at_call 27; (with_reducible refine (HV.out _ hb).mono ?_); rintro e W2 ⟨rfl, hbc⟩; replace hr := hr.bl hbc; replace hq := hq.bl hbc; replace hb := below_bl rfl hb hbc; obtain ⟨NX, hNX0⟩ : ∃ n, W2.heap.size = n := ⟨_, rfl⟩; have hNX := hide hNX0; (have hNl : w.heap.size + 2 ≤ NX := (by have := hq.lt; omega)); clear hNX0 hbc) | ((with_reducible refine al_vr NX ?_ ?_); exact hNX.out; intro W hp hb' hz2; replace hr := hr.bl (hNX.out ▸ hb'); replace hq := hq.bl (hNX.out ▸ hb'); replace hb := hb.trans (hb'.mono (by omega)); clear hb' hz2) | ((with_reducible refine st_vr NX _ p1 hp ?_ ?_ ?_); exact rfl; exact rfl; intro W hnew ho; replace hr := hr.only ho (by omega); replace hq := hq.only ho (by omega); replace hp := hnew; replace hb := ho.bel _ _ (by omega) hb; clear hnew ho) | ((with_reducible refine st_nf (w.heap.size + 1) _ zeroNc hq ?_ ?_ ?_); exact rfl; exact rfl; intro W hnew ho; replace hr := hr.only ho (by omega); replace hp := hp.only ho (by omega); replace hq := hnew; replace hb := ho.bel _ _ (by omega) hb; clear hnew ho))
      refine bodyPost_ret (results_cell_one' results11 _ _ (w.heap.size + 1) _ _ _ rfl hq underlying33 rfl size_nf) rfl ?_
      exact ⟨rfl, hb⟩
end Go.Proofs.YtbggkoahofnnjaaGreatDoor
