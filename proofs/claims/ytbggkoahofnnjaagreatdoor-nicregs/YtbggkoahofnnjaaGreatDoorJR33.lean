/-
  What nic's Read and Write answer.
-/
import Derived.Test.YtbggkoahofnnjaaGreatDoorJR28
import Derived.Test.YtbggkoahofnnjaaGreatDoorJR32
open Go.Proofs.Tryz
set_option linter.unusedVariables false
set_option linter.unusedSimpArgs false
namespace Go.Proofs.YtbggkoahofnnjaaGreatDoor
open Go.RowKit
set_option maxHeartbeats 4000000
theorem isown_any (a : Nat) (w : World) : Calls prog 23 #[.int .u32 (a : Nat)] w fun e w' => e = .returned (.bool (isOw a)) ∧ w' = w := by
  unfold isOw
  by_cases h1 : 256 ≤ a
  · have l1 : decide ((256 : Int) ≤ (a : Int)) = true := by simp; omega
    rw [decide_eq_true h1, Bool.true_and]
    by_cases h2 : a < 512
    · have l2 : decide ((a : Int) < 512) = true := by simp; omega
      rw [decide_eq_true h2, Bool.true_and]
      by_cases h4 : a % 4 = 0
      · have l3 : (((a : Int) % 4) == 0) = true := by simp; omega
        have l3b : ((((a % 4 : Nat)) : Int) == 0) = true := by simp; omega
        rw [decide_eq_true h4]
        clear h4
        go_enter func23, ntmps23
        go_wp2
        go_ret
        exact ⟨rfl, rfl⟩
      · have l3 : (((a : Int) % 4) == 0) = false := by simp; omega
        have l3b : ((((a % 4 : Nat)) : Int) == 0) = false := by simp; omega
        rw [decide_eq_false h4]
        clear h4
        go_enter func23, ntmps23
        go_wp2
        go_ret
        exact ⟨rfl, rfl⟩
    · have l2 : decide ((a : Int) < 512) = false := by simp; omega
      rw [decide_eq_false h2, Bool.false_and]
      go_enter func23, ntmps23
      go_wp2
      go_ret
      exact ⟨rfl, rfl⟩
  · have l1 : decide ((256 : Int) ≤ (a : Int)) = false := by simp; omega
    rw [decide_eq_false h1, Bool.false_and]
    go_enter func23, ntmps23
    go_wp2
    go_ret
    exact ⟨rfl, rfl⟩
theorem nread_any (s : Nc) (ok : s.Ok) (a : Nat) (w : World) (hO : OffAt w) : Calls prog 8 #[.agg s.c, .int .u32 (a : Nat)] w fun e w' => e = .returned (.tuple #[.int .u32 ((nReadV s a).1 : Nat), errR (nReadV s a).2]) ∧ Below w.heap.size w w' := by
  unfold nReadV
  by_cases h0 : a = 256
  · rw [if_pos h0]
    have l0 : (((a : Int)) == 256) = true := by simp; omega
    clear h0
    go_enter func8, ntmps8
    go_wp2_with (first | ((with_reducible refine bx_nc w.heap.size s ?_ ?_ ?_); exact rfl; exact rfl; intro W hr hb hz) | ((with_reducible refine ld_nlo w.heap.size s _ hr ?_ ?_ ?_); exact rfl; exact rfl))
    go_ret2
    exact ⟨rfl, hb⟩
  · rw [if_neg h0]
    have l0 : (((a : Int)) == 256) = false := by simp; omega
    cases ho : isOw a with
    | true =>
      rw [if_pos rfl]
      have HIo : Hid (∀ W, Calls prog 23 #[.int .u32 (a : Nat)] W fun e w' => e = .returned (.bool true) ∧ w' = W) := hide (fun W => by have := isown_any a W; rw [ho] at this; exact this)
      go_enter func8, ntmps8
      go_wp2_with (first | ((with_reducible refine bx_nc w.heap.size s ?_ ?_ ?_); exact rfl; exact rfl; intro W hr hb hz) | (go_at_call 23; (with_reducible refine (HIo.out _).mono ?_); rintro e W2 ⟨rfl, rfl⟩))
      go_ret2
      exact ⟨rfl, hb⟩
    | false =>
      rw [if_neg (by decide)]
      have HIo : Hid (∀ W, Calls prog 23 #[.int .u32 (a : Nat)] W fun e w' => e = .returned (.bool false) ∧ w' = W) := hide (fun W => by have := isown_any a W; rw [ho] at this; exact this)
      by_cases h1 : 256 ≤ a
      · rw [if_pos h1]
        have l1 : decide ((256 : Int) ≤ (a : Int)) = true := by simp; omega
        have l1b : decide ((a : Int) ≥ 256) = true := by simp; omega
        go_enter func8, ntmps8
        go_wp2_with (first | ((with_reducible refine bx_nc w.heap.size s ?_ ?_ ?_); exact rfl; exact rfl; intro W hr hb hz) | (go_at_call 23; (with_reducible refine (HIo.out _).mono ?_); rintro e W2 ⟨rfl, rfl⟩))
        go_ret2
        exact ⟨rfl, hb⟩
      · rw [if_neg h1]
        have l1 : decide ((256 : Int) ≤ (a : Int)) = false := by simp; omega
        have l1b : decide ((a : Int) ≥ 256) = false := by simp; omega
        have HV : Hid (∀ W, Below w.heap.size w W → Calls prog 24 #[.agg s.p.cells, .int .u32 1, .int .u32 (a : Nat)] W fun e w' => e = .returned (.tuple #[.int .u32 ((vreadV s.p 1 a).1 : Nat), errR (vreadV s.p 1 a).2]) ∧ Below W.heap.size W w') := hide (fun W hb => read_any s.p ok.p 1 a W (hO.bl hb))
        generalize vreadV s.p 1 a = zz at *
        obtain ⟨v0, e0⟩ := zz
        simp only at HV ⊢
        generalize errR e0 = en at *
        go_enter func8, ntmps8
        go_wp2_with (first | ((with_reducible refine bx_nc w.heap.size s ?_ ?_ ?_); exact rfl; exact rfl; intro W hr hb hz) | (go_at_call 23; (with_reducible refine (HIo.out _).mono ?_); rintro e W2 ⟨rfl, rfl⟩) | ((with_reducible refine ld_np w.heap.size s _ hr ?_ ?_ ?_); exact rfl; exact rfl) | (go_at_call 24; (with_reducible refine (HV.out _ hb).mono ?_); rintro e W ⟨rfl, hbc⟩; replace hb := below_bl rfl hb hbc))
        go_ret2
        exact ⟨rfl, hb⟩
set_option maxRecDepth 20000 in
theorem nwrite_any (s : Nc) (ok : s.Ok) (a v : Nat) (hv : v < 4294967296) (w : World) (hO : OffAt w) : Calls prog 10 #[.agg s.c, .int .u32 (a : Nat), .int .u32 (v : Nat)] w fun e w' => e = .returned (.tuple #[.agg (nWriteV s a v).1.c, errR (nWriteV s a v).2]) ∧ Below w.heap.size w w' := by
  unfold nWriteV
  cases ho : isOw a with
  | true =>
    rw [if_pos rfl]
    have HIo : Hid (∀ W, Calls prog 23 #[.int .u32 (a : Nat)] W fun e w' => e = .returned (.bool true) ∧ w' = W) := hide (fun W => by have := isown_any a W; rw [ho] at this; exact this)
    go_enter func10, ntmps10
    go_wp2_with (first | ((with_reducible refine bx_nc w.heap.size s ?_ ?_ ?_); exact rfl; exact rfl; intro W hr hb hz) | ((with_reducible refine al_nc (w.heap.size + 1) ?_ ?_); exact hz.out; intro W hq hb' hz'; replace hr := hr.bl (hz.out ▸ hb'); replace hb := hb.trans (hb'.mono (by omega)); clear hb' hz') | (go_at_call 23; (with_reducible refine (HIo.out _).mono ?_); rintro e W2 ⟨rfl, rfl⟩) | ((with_reducible refine ld_nc w.heap.size s hr ?_ ?_ ?_); exact rfl; exact rfl) | ((with_reducible refine st_nc (w.heap.size + 1) _ s hq ?_ ?_ ?_); exact rfl; exact rfl; intro W hnew ho; replace hr := hr.only ho (by omega); replace hq := hnew; replace hb := ho.bel _ _ (by omega) hb; clear hnew ho))
    refine bodyPost_ret (results_cell_one' results10 _ _ (w.heap.size + 1) _ _ _ rfl hq underlying41 rfl size_nc) rfl ?_
    exact ⟨rfl, hb⟩
  | false =>
    rw [if_neg (by decide)]
    have HIo : Hid (∀ W, Calls prog 23 #[.int .u32 (a : Nat)] W fun e w' => e = .returned (.bool false) ∧ w' = W) := hide (fun W => by have := isown_any a W; rw [ho] at this; exact this)
    by_cases h1 : 256 ≤ a
    · rw [if_pos h1]
      have l1 : decide ((256 : Int) ≤ (a : Int)) = true := by simp; omega
      have l1b : decide ((a : Int) ≥ 256) = true := by simp; omega
      go_enter func10, ntmps10
      go_wp2_with (first | ((with_reducible refine bx_nc w.heap.size s ?_ ?_ ?_); exact rfl; exact rfl; intro W hr hb hz) | ((with_reducible refine al_nc (w.heap.size + 1) ?_ ?_); exact hz.out; intro W hq hb' hz'; replace hr := hr.bl (hz.out ▸ hb'); replace hb := hb.trans (hb'.mono (by omega)); clear hb' hz') | (go_at_call 23; (with_reducible refine (HIo.out _).mono ?_); rintro e W2 ⟨rfl, rfl⟩) | ((with_reducible refine st_nc (w.heap.size + 1) _ zeroNc hq ?_ ?_ ?_); exact rfl; exact rfl; intro W hnew ho; replace hr := hr.only ho (by omega); replace hq := hnew; replace hb := ho.bel _ _ (by omega) hb; clear hnew ho))
      refine bodyPost_ret (results_cell_one' results10 _ _ (w.heap.size + 1) _ _ _ rfl hq underlying41 rfl size_nc) rfl ?_
      exact ⟨rfl, hb⟩
    · rw [if_neg h1]
      have l1 : decide ((256 : Int) ≤ (a : Int)) = false := by simp; omega
      have l1b : decide ((a : Int) ≥ 256) = false := by simp; omega
      have HV : Hid (∀ W, Below w.heap.size w W → Calls prog 26 #[.agg s.p.cells, .int .u32 (a : Nat), .int .u32 (v : Nat)] W fun e w' => e = .returned (.tuple #[.agg (writeV s.p a v).1.cells, .int .i64 (writeV s.p a v).2.1, errR (writeV s.p a v).2.2]) ∧ Below W.heap.size W w') := hide (fun W hb => write_any s.p ok.p a v hv W (hO.bl hb))
      generalize writeV s.p a v = zz at *
      obtain ⟨p1, n1, e0⟩ := zz
      simp only at HV ⊢
      by_cases he : e0 = 0
      · subst he
        rw [if_pos rfl]
        simp only [show errR 0 = Value.nilIface from rfl] at HV ⊢
        by_cases hn : n1 = 1
        · have l8 : (n1 == 1) = true := by simp; omega
          by_cases hst : p1.st = 0
          · rw [show nWr s p1 n1 = ⟨p1, false, 0⟩ by unfold nWr; rw [if_pos hst]]
            have l9 : ((p1.st : Int) == 0) = true := by simp; omega
            clear hst hn
            go_enter func10, ntmps10
            go_wp2_with (first | ((with_reducible refine bx_nc w.heap.size s ?_ ?_ ?_); exact rfl; exact rfl; intro W hr hb hz) | ((with_reducible refine al_nc (w.heap.size + 1) ?_ ?_); exact hz.out; intro W hq hb' hz'; replace hr := hr.bl (hz.out ▸ hb'); replace hb := hb.trans (hb'.mono (by omega)); clear hb' hz') | (go_at_call 23; (with_reducible refine (HIo.out _).mono ?_); rintro e W2 ⟨rfl, rfl⟩) | ((with_reducible refine ld_np w.heap.size s _ hr ?_ ?_ ?_); exact rfl; exact rfl) | (go_at_call 26; (with_reducible refine (HV.out _ hb).mono ?_); rintro e W2 ⟨rfl, hbc⟩; replace hr := hr.bl hbc; replace hq := hq.bl hbc; replace hb := below_bl rfl hb hbc; obtain ⟨NX, hNX0⟩ : ∃ n, W2.heap.size = n := ⟨_, rfl⟩; have hNX := hide hNX0; (have hNl : w.heap.size + 2 ≤ NX := (by have := hq.lt; omega)); clear hNX0 hbc) | ((with_reducible refine al_vp NX ?_ ?_); exact hNX.out; intro W hp hb' hz2; replace hr := hr.bl (hNX.out ▸ hb'); replace hq := hq.bl (hNX.out ▸ hb'); replace hb := hb.trans (hb'.mono (by omega)); clear hb' hz2) | ((with_reducible refine st_vp NX _ p1 hp ?_ ?_ ?_); exact rfl; exact rfl; intro W hnew ho; replace hr := hr.only ho (by omega); replace hq := hq.only ho (by omega); replace hp := hnew; replace hb := ho.bel _ _ (by omega) hb; clear hnew ho) | ((with_reducible refine ld_vp NX p1 hp ?_ ?_ ?_); exact rfl; exact rfl) | ((with_reducible refine st_np w.heap.size s p1 _ hr ?_ ?_ ?_); exact rfl; exact rfl; intro W hnew ho; replace hq := hq.only ho (by omega); replace hp := hp.only ho (by omega); replace hr := hnew; replace hb := ho.bel _ _ (by omega) hb; clear hnew ho) | ((with_reducible refine st_nbe w.heap.size (s.pw p1) true _ hr ?_ ?_ ?_); exact rfl; exact rfl; intro W hnew ho; replace hq := hq.only ho (by omega); replace hp := hp.only ho (by omega); replace hr := hnew; replace hb := ho.bel _ _ (by omega) hb; clear hnew ho) | ((with_reducible refine ld_st NX p1 _ hp ?_ ?_ ?_); exact rfl; exact rfl) | ((with_reducible refine st_nbe w.heap.size ((s.pw p1).bw true) false _ hr ?_ ?_ ?_); exact rfl; exact rfl; intro W hnew ho; replace hq := hq.only ho (by omega); replace hp := hp.only ho (by omega); replace hr := hnew; replace hb := ho.bel _ _ (by omega) hb; clear hnew ho) | ((with_reducible refine st_nlo w.heap.size (((s.pw p1).bw true).bw false) 0 _ hr ?_ ?_ ?_); exact rfl; exact rfl; intro W hnew ho; replace hq := hq.only ho (by omega); replace hp := hp.only ho (by omega); replace hr := hnew; replace hb := ho.bel _ _ (by omega) hb; clear hnew ho) | ((with_reducible refine ld_nc w.heap.size ((((s.pw p1).bw true).bw false).lw 0) hr ?_ ?_ ?_); exact rfl; exact rfl) | ((with_reducible refine st_nc (w.heap.size + 1) _ ((((s.pw p1).bw true).bw false).lw 0) hq ?_ ?_ ?_); exact rfl; exact rfl; intro W hnew ho; replace hr := hr.only ho (by omega); replace hp := hp.only ho (by omega); replace hq := hnew; replace hb := ho.bel _ _ (by omega) hb; clear hnew ho))
            refine bodyPost_ret (results_cell_one' results10 _ _ (w.heap.size + 1) _ _ _ rfl hq underlying41 rfl size_nc) rfl ?_
            exact ⟨rfl, hb⟩
          · rw [show nWr s p1 n1 = ⟨p1, true, s.lo⟩ by unfold nWr; rw [if_neg hst, if_pos hn]]
            have l9 : ((p1.st : Int) == 0) = false := by simp; omega
            clear hst hn
            go_enter func10, ntmps10
            go_wp2_with (first | ((with_reducible refine bx_nc w.heap.size s ?_ ?_ ?_); exact rfl; exact rfl; intro W hr hb hz) | ((with_reducible refine al_nc (w.heap.size + 1) ?_ ?_); exact hz.out; intro W hq hb' hz'; replace hr := hr.bl (hz.out ▸ hb'); replace hb := hb.trans (hb'.mono (by omega)); clear hb' hz') | (go_at_call 23; (with_reducible refine (HIo.out _).mono ?_); rintro e W2 ⟨rfl, rfl⟩) | ((with_reducible refine ld_np w.heap.size s _ hr ?_ ?_ ?_); exact rfl; exact rfl) | (go_at_call 26; (with_reducible refine (HV.out _ hb).mono ?_); rintro e W2 ⟨rfl, hbc⟩; replace hr := hr.bl hbc; replace hq := hq.bl hbc; replace hb := below_bl rfl hb hbc; obtain ⟨NX, hNX0⟩ : ∃ n, W2.heap.size = n := ⟨_, rfl⟩; have hNX := hide hNX0; (have hNl : w.heap.size + 2 ≤ NX := (by have := hq.lt; omega)); clear hNX0 hbc) | ((with_reducible refine al_vp NX ?_ ?_); exact hNX.out; intro W hp hb' hz2; replace hr := hr.bl (hNX.out ▸ hb'); replace hq := hq.bl (hNX.out ▸ hb'); replace hb := hb.trans (hb'.mono (by omega)); clear hb' hz2) | ((with_reducible refine st_vp NX _ p1 hp ?_ ?_ ?_); exact rfl; exact rfl; intro W hnew ho; replace hr := hr.only ho (by omega); replace hq := hq.only ho (by omega); replace hp := hnew; replace hb := ho.bel _ _ (by omega) hb; clear hnew ho) | ((with_reducible refine ld_vp NX p1 hp ?_ ?_ ?_); exact rfl; exact rfl) | ((with_reducible refine st_np w.heap.size s p1 _ hr ?_ ?_ ?_); exact rfl; exact rfl; intro W hnew ho; replace hq := hq.only ho (by omega); replace hp := hp.only ho (by omega); replace hr := hnew; replace hb := ho.bel _ _ (by omega) hb; clear hnew ho) | ((with_reducible refine st_nbe w.heap.size (s.pw p1) true _ hr ?_ ?_ ?_); exact rfl; exact rfl; intro W hnew ho; replace hq := hq.only ho (by omega); replace hp := hp.only ho (by omega); replace hr := hnew; replace hb := ho.bel _ _ (by omega) hb; clear hnew ho) | ((with_reducible refine ld_st NX p1 _ hp ?_ ?_ ?_); exact rfl; exact rfl) | ((with_reducible refine ld_nc w.heap.size ((s.pw p1).bw true) hr ?_ ?_ ?_); exact rfl; exact rfl) | ((with_reducible refine st_nc (w.heap.size + 1) _ ((s.pw p1).bw true) hq ?_ ?_ ?_); exact rfl; exact rfl; intro W hnew ho; replace hr := hr.only ho (by omega); replace hp := hp.only ho (by omega); replace hq := hnew; replace hb := ho.bel _ _ (by omega) hb; clear hnew ho))
            refine bodyPost_ret (results_cell_one' results10 _ _ (w.heap.size + 1) _ _ _ rfl hq underlying41 rfl size_nc) rfl ?_
            exact ⟨rfl, hb⟩
        · have l8 : (n1 == 1) = false := by simp; omega
          by_cases hst : p1.st = 0
          · rw [show nWr s p1 n1 = ⟨p1, false, 0⟩ by unfold nWr; rw [if_pos hst]]
            have l9 : ((p1.st : Int) == 0) = true := by simp; omega
            clear hst hn
            go_enter func10, ntmps10
            go_wp2_with (first | ((with_reducible refine bx_nc w.heap.size s ?_ ?_ ?_); exact rfl; exact rfl; intro W hr hb hz) | ((with_reducible refine al_nc (w.heap.size + 1) ?_ ?_); exact hz.out; intro W hq hb' hz'; replace hr := hr.bl (hz.out ▸ hb'); replace hb := hb.trans (hb'.mono (by omega)); clear hb' hz') | (go_at_call 23; (with_reducible refine (HIo.out _).mono ?_); rintro e W2 ⟨rfl, rfl⟩) | ((with_reducible refine ld_np w.heap.size s _ hr ?_ ?_ ?_); exact rfl; exact rfl) | (go_at_call 26; (with_reducible refine (HV.out _ hb).mono ?_); rintro e W2 ⟨rfl, hbc⟩; replace hr := hr.bl hbc; replace hq := hq.bl hbc; replace hb := below_bl rfl hb hbc; obtain ⟨NX, hNX0⟩ : ∃ n, W2.heap.size = n := ⟨_, rfl⟩; have hNX := hide hNX0; (have hNl : w.heap.size + 2 ≤ NX := (by have := hq.lt; omega)); clear hNX0 hbc) | ((with_reducible refine al_vp NX ?_ ?_); exact hNX.out; intro W hp hb' hz2; replace hr := hr.bl (hNX.out ▸ hb'); replace hq := hq.bl (hNX.out ▸ hb'); replace hb := hb.trans (hb'.mono (by omega)); clear hb' hz2) | ((with_reducible refine st_vp NX _ p1 hp ?_ ?_ ?_); exact rfl; exact rfl; intro W hnew ho; replace hr := hr.only ho (by omega); replace hq := hq.only ho (by omega); replace hp := hnew; replace hb := ho.bel _ _ (by omega) hb; clear hnew ho) | ((with_reducible refine ld_vp NX p1 hp ?_ ?_ ?_); exact rfl; exact rfl) | ((with_reducible refine st_np w.heap.size s p1 _ hr ?_ ?_ ?_); exact rfl; exact rfl; intro W hnew ho; replace hq := hq.only ho (by omega); replace hp := hp.only ho (by omega); replace hr := hnew; replace hb := ho.bel _ _ (by omega) hb; clear hnew ho) | ((with_reducible refine ld_st NX p1 _ hp ?_ ?_ ?_); exact rfl; exact rfl) | ((with_reducible refine st_nbe w.heap.size (s.pw p1) false _ hr ?_ ?_ ?_); exact rfl; exact rfl; intro W hnew ho; replace hq := hq.only ho (by omega); replace hp := hp.only ho (by omega); replace hr := hnew; replace hb := ho.bel _ _ (by omega) hb; clear hnew ho) | ((with_reducible refine st_nlo w.heap.size ((s.pw p1).bw false) 0 _ hr ?_ ?_ ?_); exact rfl; exact rfl; intro W hnew ho; replace hq := hq.only ho (by omega); replace hp := hp.only ho (by omega); replace hr := hnew; replace hb := ho.bel _ _ (by omega) hb; clear hnew ho) | ((with_reducible refine ld_nc w.heap.size (((s.pw p1).bw false).lw 0) hr ?_ ?_ ?_); exact rfl; exact rfl) | ((with_reducible refine st_nc (w.heap.size + 1) _ (((s.pw p1).bw false).lw 0) hq ?_ ?_ ?_); exact rfl; exact rfl; intro W hnew ho; replace hr := hr.only ho (by omega); replace hp := hp.only ho (by omega); replace hq := hnew; replace hb := ho.bel _ _ (by omega) hb; clear hnew ho))
            refine bodyPost_ret (results_cell_one' results10 _ _ (w.heap.size + 1) _ _ _ rfl hq underlying41 rfl size_nc) rfl ?_
            exact ⟨rfl, hb⟩
          · rw [show nWr s p1 n1 = ⟨p1, s.be, s.lo⟩ by unfold nWr; rw [if_neg hst, if_neg hn]]
            have l9 : ((p1.st : Int) == 0) = false := by simp; omega
            clear hst hn
            go_enter func10, ntmps10
            go_wp2_with (first | ((with_reducible refine bx_nc w.heap.size s ?_ ?_ ?_); exact rfl; exact rfl; intro W hr hb hz) | ((with_reducible refine al_nc (w.heap.size + 1) ?_ ?_); exact hz.out; intro W hq hb' hz'; replace hr := hr.bl (hz.out ▸ hb'); replace hb := hb.trans (hb'.mono (by omega)); clear hb' hz') | (go_at_call 23; (with_reducible refine (HIo.out _).mono ?_); rintro e W2 ⟨rfl, rfl⟩) | ((with_reducible refine ld_np w.heap.size s _ hr ?_ ?_ ?_); exact rfl; exact rfl) | (go_at_call 26; (with_reducible refine (HV.out _ hb).mono ?_); rintro e W2 ⟨rfl, hbc⟩; replace hr := hr.bl hbc; replace hq := hq.bl hbc; replace hb := below_bl rfl hb hbc; obtain ⟨NX, hNX0⟩ : ∃ n, W2.heap.size = n := ⟨_, rfl⟩; have hNX := hide hNX0; (have hNl : w.heap.size + 2 ≤ NX := (by have := hq.lt; omega)); clear hNX0 hbc) | ((with_reducible refine al_vp NX ?_ ?_); exact hNX.out; intro W hp hb' hz2; replace hr := hr.bl (hNX.out ▸ hb'); replace hq := hq.bl (hNX.out ▸ hb'); replace hb := hb.trans (hb'.mono (by omega)); clear hb' hz2) | ((with_reducible refine st_vp NX _ p1 hp ?_ ?_ ?_); exact rfl; exact rfl; intro W hnew ho; replace hr := hr.only ho (by omega); replace hq := hq.only ho (by omega); replace hp := hnew; replace hb := ho.bel _ _ (by omega) hb; clear hnew ho) | ((with_reducible refine ld_vp NX p1 hp ?_ ?_ ?_); exact rfl; exact rfl) | ((with_reducible refine st_np w.heap.size s p1 _ hr ?_ ?_ ?_); exact rfl; exact rfl; intro W hnew ho; replace hq := hq.only ho (by omega); replace hp := hp.only ho (by omega); replace hr := hnew; replace hb := ho.bel _ _ (by omega) hb; clear hnew ho) | ((with_reducible refine ld_st NX p1 _ hp ?_ ?_ ?_); exact rfl; exact rfl) | ((with_reducible refine ld_nc w.heap.size (s.pw p1) hr ?_ ?_ ?_); exact rfl; exact rfl) | ((with_reducible refine st_nc (w.heap.size + 1) _ (s.pw p1) hq ?_ ?_ ?_); exact rfl; exact rfl; intro W hnew ho; replace hr := hr.only ho (by omega); replace hp := hp.only ho (by omega); replace hq := hnew; replace hb := ho.bel _ _ (by omega) hb; clear hnew ho))
            refine bodyPost_ret (results_cell_one' results10 _ _ (w.heap.size + 1) _ _ _ rfl hq underlying41 rfl size_nc) rfl ?_
            exact ⟨rfl, hb⟩
      · rw [if_neg he]
        have hE : ∃ z : Int, errR e0 = .iface 82 (.int .i64 z) := ⟨_, by unfold errR; rw [if_neg he]⟩
        obtain ⟨z, hz⟩ := hE
        rw [hz] at HV ⊢
        clear hz he
        go_enter func10, ntmps10
        go_wp2_with (first | ((with_reducible refine bx_nc w.heap.size s ?_ ?_ ?_); exact rfl; exact rfl; intro W hr hb hz) | ((with_reducible refine al_nc (w.heap.size + 1) ?_ ?_); exact hz.out; intro W hq hb' hz'; replace hr := hr.bl (hz.out ▸ hb'); replace hb := hb.trans (hb'.mono (by omega)); clear hb' hz') | (go_at_call 23; (with_reducible refine (HIo.out _).mono ?_); rintro e W2 ⟨rfl, rfl⟩) | ((with_reducible refine ld_np w.heap.size s _ hr ?_ ?_ ?_); exact rfl; exact rfl) | (go_at_call 26; (with_reducible refine (HV.out _ hb).mono ?_); rintro e W2 ⟨rfl, hbc⟩; replace hr := hr.bl hbc; replace hq := hq.bl hbc; replace hb := below_bl rfl hb hbc; obtain ⟨NX, hNX0⟩ : ∃ n, W2.heap.size = n := ⟨_, rfl⟩; have hNX := hide hNX0; (have hNl : w.heap.size + 2 ≤ NX := (by have := hq.lt; omega)); clear hNX0 hbc) | ((with_reducible refine al_vp NX ?_ ?_); exact hNX.out; intro W hp hb' hz2; replace hr := hr.bl (hNX.out ▸ hb'); replace hq := hq.bl (hNX.out ▸ hb'); replace hb := hb.trans (hb'.mono (by omega)); clear hb' hz2) | ((with_reducible refine st_vp NX _ p1 hp ?_ ?_ ?_); exact rfl; exact rfl; intro W hnew ho; replace hr := hr.only ho (by omega); replace hq := hq.only ho (by omega); replace hp := hnew; replace hb := ho.bel _ _ (by omega) hb; clear hnew ho) | ((with_reducible refine st_nc (w.heap.size + 1) _ zeroNc hq ?_ ?_ ?_); exact rfl; exact rfl; intro W hnew ho; replace hr := hr.only ho (by omega); replace hp := hp.only ho (by omega); replace hq := hnew; replace hb := ho.bel _ _ (by omega) hb; clear hnew ho))
        refine bodyPost_ret (results_cell_one' results10 _ _ (w.heap.size + 1) _ _ _ rfl hq underlying41 rfl size_nc) rfl ?_
        exact ⟨rfl, hb⟩
end Go.Proofs.YtbggkoahofnnjaaGreatDoor
