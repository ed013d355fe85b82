/-
  The document's Do: stores.
-/
import Derived.Test.YtchjhpeogdkbmaaDoorTk
import Derived.Test.YtchjhpeogdkbmaaDoorJG
namespace Go.Proofs.YtchjhpeogdkbmaaDoor
open Go.RowKit
set_option linter.unusedVariables false

theorem y_bd {P : Program} {ops : Array Oper} {dst : Option Tmp} {ty t : TypeId} {pos : String} {after : Array Edge} {a : Act} {S : World → Prop} {xs : Array (Nat × Operand)} (ps : List (Nat × Value)) (cs : Array Value) (hb : P.built t ps = some cs) (hp : (xs.map fun (i, x) => (i, a.eval x)).toList = ps) :
    YieldsIf P ops S ⟨dst, .build t xs, ty, pos, after, none⟩ (.agg cs) a :=
  .inl ⟨by simp [Region.wanted], fun V hV => by
    have h := run_build V t (xs.map fun (i, x) => (i, a.eval x)) cs (by rw [hp]; exact hb)
    unfold execOp
    simp only [Sem.run_bind, h, Result.andThen_ok, Sem.run_pure]⟩
set_option maxRecDepth 100000 in
set_option maxHeartbeats 2000000 in
theorem rdo_4t (h : H) (ok : h.Ok) (op im cs : Int) (rd s1 s2 : Nat) (hrd : rd < 32) (h1 : s1 < 32) (h2 : s2 < 32) (v l : Nat) (s : ByteArray) (hT : Told v ⟨op, (rd : Nat), (s1 : Nat), (s2 : Nat), im, cs⟩ s) (m1 : MissL L1 s) (m2 : MissL L2 s) (m3 : MissL L3 s) (k m : Nat) (hm0 : 0 < m) (hm4 : m ≤ 4) (hk : HitL L4 k s) (hw : (intC [1, 2, 4, 1, 2])[k]? = some (.int .i64 (m : Nat))) (hm : ((h.x s1 + immN im) % 4294967296) % m = 0) (w : World) :
    Calls Tryd.prog 10 #[.agg h.cells, .int .u32 (v : Nat), .int .u32 (l : Nat)] w fun e w' => e = .returned (.tuple #[.agg (h).cells, .agg ((⟨1, (h.x s1 + immN im) % 4294967296, (m : Nat), decide (k < 3), (rd : Nat), 0⟩ : A6)).cells]) ∧ Below w.heap.size w w' := by
  have HD := hide hT.1
  have HM := hide hT.2
  clear hT
  obtain ⟨n, hn0⟩ : ∃ n, immN im = n := ⟨_, rfl⟩
  have hn : n < 4294967296 := hn0 ▸ immN_lt im
  have HIm : Hid (IntKind.u32.wrap im = ((n : Nat) : Int)) := hide (by rw [IntKind.wrap_u32, ← immN_cast, hn0])
  obtain ⟨nx, hnx0⟩ : ∃ x, (h.pc + 4) % 4294967296 = x := ⟨_, rfl⟩
  have HNx : Hid (IntKind.u32.wrap ((h.pc : Int) + 4) = ((nx : Nat) : Int)) := hide (by rw [IntKind.wrap_u32, ← hnx0]; omega)
  have b1 : (0 : Int) ≤ s1 := by omega
  have b1' : (s1 : Int) < 32 := by omega
  have b2 : (0 : Int) ≤ s2 := by omega
  have b2' : (s2 : Int) < 32 := by omega
  have HP1 := hide (fun N w hr => place_miss L1 10 s rfl (by decide) m1 N w hr)
  have HP2 := hide (fun N w hr => place_miss L2 18 s rfl (by decide) m2 N w hr)
  have HP3 := hide (fun N w hr => place_miss L3 6 s rfl (by decide) m3 N w hr)
  have HP4 := hide (fun N w hr => place_hit L4 5 k s rfl (by decide) hk N w hr)
  clear m1 m2 m3
  obtain ⟨pl, hpl0⟩ : ∃ x, (h.x s1 + n) % 4294967296 = x := ⟨_, rfl⟩
  have epl : ((((h.x s1 : Nat) : Int) + (n : Int)) % 4294967296) = (pl : Int) := by rw [← hpl0]; omega
  have hpl1 : (h.x s1 + immN im) % 4294967296 = pl := by rw [hn0]; exact hpl0
  rw [hpl1] at hm ⊢
  clear hpl1
  have cw := hw
  have tm0 : ((m : Int) == 0) = false := by simp; omega
  have tm1 : (m : Int) ≠ 0 := by omega
  have tm2 : (m : Int) % 4294967296 = m := by omega
  have tm3 : IntKind.u32.wrap (m : Int) = m := by rw [IntKind.wrap_u32]; omega
  have tk : (0 : Int) ≤ (k : Int) := by omega
  have tk5 : (k : Int) < 5 := by have := hk.1; have e : L4.length = 5 := rfl; omega
  have tsg : decide ((k : Int) < 3) = decide (k < 3) := by rw [decide_eq_decide]; omega
  have t2 : (((((h.x s1 : Nat) : Int) + (n : Int)) % 4294967296) % (m : Int) != 0) = false := by rw [epl]; (have e9 : ((pl : Int) % (m : Int)) = ((pl % m : Nat) : Int) := by simp); rw [e9, hm]; rfl
  have hB : Tryd.prog.built 37 [(0, .int .i64 1), (1, .int .u32 (pl : Nat)), (2, .int .i64 (m : Nat)), (3, .bool (decide (k < 3))), (4, .int .i64 (rd : Nat)), (5, .int .u32 0)] = some (A6.cells ⟨1, pl, (m : Nat), decide (k < 3), (rd : Nat), 0⟩) := by kernel_rfl
  replace hB := hide hB
  go_enter Tryd.func10, Tryd.ntmps10
  go_wp2_with (first | ((with_reducible refine bx_g w.heap.size h ?_ ?_ ?_); exact rfl; exact rfl; intro W hr hb hz) | ((with_reducible refine al_g (w.heap.size + 1) ?_ ?_); exact hz.out; intro W hq hb' hz'; obtain ⟨hr, hb⟩ := an1 hz hb' hr hb; replace hz := hz') | ((with_reducible refine al_ra (w.heap.size + 2) ?_ ?_); exact hz.out; intro W ha hb' hz'; obtain ⟨hr, hq, hb⟩ := an2 hz hb' hr hq hb; replace hz := hz') | (go_at_call 28; (with_reducible refine (HD.out _).mono ?_); rintro e W ⟨rfl, hbc⟩; replace hr := hr.bl hbc; replace hq := hq.bl hbc; replace ha := ha.bl hbc; obtain ⟨NI, hNI⟩ : ∃ n, W.heap.size = n := ⟨_, rfl⟩; have lNI : w.heap.size + 3 ≤ NI := (by (have := ha.lt; omega)); replace hNI := hide hNI; replace hb := below_bl rfl hb hbc) | ((with_reducible refine al_ri NI ?_ ?_); exact hNI.out; intro W hi hb' hzI; obtain ⟨hr, hq, ha, hb⟩ := an3 hNI hb' hr hq ha hb) | ((with_reducible refine st_ri NI _ ⟨op, (rd : Nat), (s1 : Nat), (s2 : Nat), im, cs⟩ hi ?_ ?_ ?_); exact rfl; exact rfl; intro W hnew ho; obtain ⟨hr, hq, ha, hb⟩ := on3 ho hr hq ha hb; replace hi := hnew))
  replace hq := hq.dr
  replace ha := ha.dr
  refine wp_region_held_drew (S := (fun V => RowAt V w.heap.size h.cells 28 ∧ RowAt V NI (I6.cells ⟨op, (rd : Nat), (s1 : Nat), (s2 : Nat), im, cs⟩) 69 ∧ Below w.heap.size w V)) (by kernel_rfl) ?_ (fun hHeld => ?_)
  · exact ⟨hr.dr, hi.dr, hb.drew⟩
  generalize W.drew = V at hHeld hq ha ⊢
  clear hr hi hb
  refine tkO 0 (.pointer (some ⟨NI, 2, none⟩)) (by simp only [gT, gZ]; rfl) (puO (by (intro w hSw; (try dsimp only at hSw); go_simp))) ?_
  simp only [Act.put, pA, pZ, pS]
  refine tkO 1 (.int .i64 (s1 : Nat)) (by simp only [gT, gZ, gS]; rfl) (y_int NI 2 (s1 : Nat) (fun V hV => (hV.2.1.cell 2).trans rfl) rfl) ?_
  simp only [Act.put, pA, pZ, pS]
  refine tkO 2 (.pointer (some ⟨w.heap.size, 1, none⟩)) (by simp only [gT, gZ, gS]; rfl) (puO (by (intro w hSw; (try dsimp only at hSw); go_simp))) ?_
  simp only [Act.put, pA, pZ, pS]
  refine tkO 3 (.pointer (some ⟨w.heap.size, 1 + s1, none⟩)) (by simp only [gT, gZ, gS]; rfl) (puO (by (intro w hSw; (try dsimp only at hSw); go_simp))) ?_
  simp only [Act.put, pA, pZ, pS]
  refine tkO 4 (.int .u32 (h.x s1 : Nat)) (by simp only [gT, gZ, gS]; rfl) (y_word w.heap.size (1 + s1) _ (fun V hV => (hV.1.cell (1 + s1)).trans (h.cell_x s1 h1)) rfl) ?_
  simp only [Act.put, pA, pZ, pS]
  refine tkO 5 (.pointer (some ⟨NI, 3, none⟩)) (by simp only [gT, gZ, gS]; rfl) (puO (by (intro w hSw; (try dsimp only at hSw); go_simp))) ?_
  simp only [Act.put, pA, pZ, pS]
  refine tkO 6 (.int .i64 (s2 : Nat)) (by simp only [gT, gZ, gS]; rfl) (y_int NI 3 (s2 : Nat) (fun V hV => (hV.2.1.cell 3).trans rfl) rfl) ?_
  simp only [Act.put, pA, pZ, pS]
  refine tkO 7 (.pointer (some ⟨w.heap.size, 1, none⟩)) (by simp only [gT, gZ, gS]; rfl) (puO (by (intro w hSw; (try dsimp only at hSw); go_simp))) ?_
  simp only [Act.put, pA, pZ, pS]
  refine tkO 8 (.pointer (some ⟨w.heap.size, 1 + s2, none⟩)) (by simp only [gT, gZ, gS]; rfl) (puO (by (intro w hSw; (try dsimp only at hSw); go_simp))) ?_
  simp only [Act.put, pA, pZ, pS]
  refine tkO 9 (.int .u32 (h.x s2 : Nat)) (by simp only [gT, gZ, gS]; rfl) (y_word w.heap.size (1 + s2) _ (fun V hV => (hV.1.cell (1 + s2)).trans (h.cell_x s2 h2)) rfl) ?_
  simp only [Act.put, pA, pZ, pS]
  refine tkO 10 (.pointer (some ⟨NI, 4, none⟩)) (by simp only [gT, gZ, gS]; rfl) (puO (by (intro w hSw; (try dsimp only at hSw); go_simp))) ?_
  simp only [Act.put, pA, pZ, pS]
  refine tkO 11 (.int .i64 im) (by simp only [gT, gZ, gS]; rfl) (y_int NI 4 im (fun V hV => (hV.2.1.cell 4).trans rfl) rfl) ?_
  simp only [Act.put, pA, pZ, pS]
  refine tkO 12 (.int .u32 (n : Nat)) (by simp only [gT, gZ, gS]; rfl) (puO (by (intro w hSw; (try dsimp only at hSw); go_simp; exact HIm.out))) ?_
  simp only [Act.put, pA, pZ, pS]
  refine tkO 13 (.pointer (some ⟨w.heap.size, 0, none⟩)) (by simp only [gT, gZ, gS]; rfl) (puO (by (intro w hSw; (try dsimp only at hSw); go_simp))) ?_
  simp only [Act.put, pA, pZ, pS]
  refine tkO 14 (.int .u32 (h.pc : Nat)) (by simp only [gT, gZ, gS]; rfl) (y_word w.heap.size 0 (h.pc : Nat) (fun V hV => hV.1.cell 0) rfl) ?_
  simp only [Act.put, pA, pZ, pS]
  refine tkO 15 (.int .u32 (nx : Nat)) (by simp only [gT, gZ, gS]; rfl) (puO (by (intro w hSw; (try dsimp only at hSw); go_simp; exact HNx.out))) ?_
  simp only [Act.put, pA, pZ, pS]
  refine tkO 16 (.int .u32 (h.x s1 : Nat)) (by simp only [gT, gZ, gS]; rfl) (puO (by (intro w hSw; (try dsimp only at hSw); go_simp))) ?_
  simp only [Act.put, pA, pZ, pS]
  refine tkO 17 (.int .u32 (h.x s2 : Nat)) (by simp only [gT, gZ, gS]; rfl) (puO (by (intro w hSw; (try dsimp only at hSw); go_simp))) ?_
  simp only [Act.put, pA, pZ, pS]
  refine tkO 18 (.int .u32 (n : Nat)) (by simp only [gT, gZ, gS]; rfl) (puO (by (intro w hSw; (try dsimp only at hSw); go_simp))) ?_
  simp only [Act.put, pA, pZ, pS]
  refine tkO 19 (.int .u32 (nx : Nat)) (by simp only [gT, gZ, gS]; rfl) (puO (by (intro w hSw; (try dsimp only at hSw); go_simp))) ?_
  simp only [Act.put, pA, pZ, pS]
  refine wpAnyH_done (by kernel_rfl) ?_ _
  have hr := hHeld.1
  have hi := hHeld.2.1
  have hb := hHeld.2.2
  clear hHeld
  go_wp2_with (first | ((with_reducible refine ld_rij NI 0 op _ _ hi ?_ ?_ ?_); exact rfl; exact rfl) | (go_at_call 30; (with_reducible refine (HM.out _).mono ?_); rintro e W ⟨rfl, hbc⟩; replace hr := hr.bl hbc; replace hq := hq.bl hbc; replace ha := ha.bl hbc; replace hi := hi.bl hbc; obtain ⟨M1, hM1⟩ : ∃ n, W.heap.size = n := ⟨_, rfl⟩; have lM1 : NI + 1 ≤ M1 := (by (have := hi.lt; omega)); replace hM1 := hide hM1; replace hb := below_bl rfl hb hbc) | ((with_reducible refine bs_lst L1 10 M1 ?_ ?_ ?_); exact hM1.out; kernel_rfl; intro W hl1 hb' hzM1; obtain ⟨hr, hq, ha, hi, hb⟩ := an4 hM1 hb' hr hq ha hi hb) | (go_at_call 31; (with_reducible refine (HP1.out _ _ hl1).mono ?_); rintro e W2 ⟨rfl, rfl⟩) | ((with_reducible refine bs_lst L2 18 (M1 + 1) ?_ ?_ ?_); exact hzM1.out; kernel_rfl; intro W hl2 hb' hzM2; obtain ⟨hr, hq, ha, hi, hb⟩ := an4 hzM1 hb' hr hq ha hi hb) | (go_at_call 31; (with_reducible refine (HP2.out _ _ hl2).mono ?_); rintro e W2 ⟨rfl, rfl⟩) | ((with_reducible refine bs_lst L3 6 (M1 + 2) ?_ ?_ ?_); exact hzM2.out; kernel_rfl; intro W hl3 hb' hzM3; obtain ⟨hr, hq, ha, hi, hb⟩ := an4 hzM2 hb' hr hq ha hi hb) | (go_at_call 31; (with_reducible refine (HP3.out _ _ hl3).mono ?_); rintro e W2 ⟨rfl, rfl⟩) | ((with_reducible refine bs_lst L4 5 (M1 + 3) ?_ ?_ ?_); exact hzM3.out; kernel_rfl; intro W hl4 hb' hzM4; obtain ⟨hr, hq, ha, hi, hb⟩ := an4 hzM3 hb' hr hq ha hi hb) | (go_at_call 31; (with_reducible refine (HP4.out _ _ hl4).mono ?_); rintro e W2 ⟨rfl, rfl⟩) | ((with_reducible refine bs_int [1, 2, 4, 1, 2] 5 (M1 + 4) ?_ ?_ ?_); exact hzM4.out; kernel_rfl; intro W hw5 hb' hzW; obtain ⟨hr, hq, ha, hi, hb⟩ := an4 hzM4 hb' hr hq ha hi hb) | ((with_reducible refine ld_rij (M1 + 4) k (m : Nat) _ _ hw5 ?_ ?_ ?_); exact cw; exact rfl))
  replace hq := hq.dr
  replace ha := ha.dr
  refine wp_region_held_drew (S := (fun V => RowAt V w.heap.size h.cells 28 ∧ RowAt V NI (I6.cells ⟨op, (rd : Nat), (s1 : Nat), (s2 : Nat), im, cs⟩) 69 ∧ Below w.heap.size w V)) (by kernel_rfl) ?_ (fun hHeld => ?_)
  · exact ⟨hr.dr, hi.dr, hb.drew⟩
  generalize W.drew = V at hHeld hq ha ⊢
  clear hr hi hb
  refine tkO 0 (.agg h.cells) (by simp only [gT, gZ]; rfl) (y_g0 w.heap.size h (fun V hV => hV.1) rfl) ?_
  simp only [Act.put, pA, pZ, pS]
  refine tkO 1 (.int .u32 (h.x s1 : Nat)) (by simp only [gT, gZ, gS]; rfl) (puO (by (intro w hSw; (try dsimp only at hSw); go_simp))) ?_
  simp only [Act.put, pA, pZ, pS]
  refine tkO 2 (.int .u32 (n : Nat)) (by simp only [gT, gZ, gS]; rfl) (puO (by (intro w hSw; (try dsimp only at hSw); go_simp))) ?_
  simp only [Act.put, pA, pZ, pS]
  refine tkO 3 (.int .u32 (pl : Nat)) (by simp only [gT, gZ, gS]; rfl) (puO (by (intro w hSw; (try dsimp only at hSw); go_simp; rw [IntKind.wrap_u32]; exact epl))) ?_
  simp only [Act.put, pA, pZ, pS]
  refine tkO 4 (.int .i64 (m : Nat)) (by simp only [gT, gZ, gS]; rfl) (puO (by (intro w hSw; (try dsimp only at hSw); go_simp))) ?_
  simp only [Act.put, pA, pZ, pS]
  refine tkO 5 (.int .i64 (k : Nat)) (by simp only [gT, gZ, gS]; rfl) (puO (by (intro w hSw; (try dsimp only at hSw); go_simp))) ?_
  simp only [Act.put, pA, pZ, pS]
  refine tkO 6 (.bool (decide (k < 3))) (by simp only [gT, gZ, gS]; rfl) (puO (by (intro w hSw; (try dsimp only at hSw); go_simp))) ?_
  simp only [Act.put, pA, pZ, pS]
  refine tkO 7 (.pointer (some ⟨NI, 1, none⟩)) (by simp only [gT, gZ, gS]; rfl) (puO (by (intro w hSw; (try dsimp only at hSw); go_simp))) ?_
  simp only [Act.put, pA, pZ, pS]
  refine tkO 8 (.int .i64 (rd : Nat)) (by simp only [gT, gZ, gS]; rfl) (y_int NI 1 (rd : Nat) (fun V hV => (hV.2.1.cell 1).trans rfl) rfl) ?_
  simp only [Act.put, pA, pZ, pS]
  refine tkO 9 (.agg (A6.cells ⟨1, pl, (m : Nat), decide (k < 3), (rd : Nat), 0⟩)) (by simp only [gT, gZ, gS]; rfl) (y_bd _ _ hB.out (by kernel_rfl)) ?_
  simp only [Act.put, pA, pZ, pS]
  refine skO 10 (by simp only [gT, gZ, gS]; rfl) (fun K hK => ?_)
  rw [if_pos (by rfl)]
  (with_reducible refine s_g (w.heap.size + 1) _ (h) hq ?_ ?_ ?_)
  · exact rfl
  · exact rfl
  intro V hnew ho
  have hH2 := hide (And.intro (hHeld.1.only ho (by omega)) (And.intro (hHeld.2.1.only ho (by omega)) (ho.bel _ _ (by omega) hHeld.2.2)))
  replace ha := ha.only ho (by omega)
  replace hq := hnew
  clear hHeld
  refine hK.out _ _ ?_ (fun hHeld => ?_)
  · exact hH2.out
  clear hK K
  clear hH2
  refine skO 11 (by simp only [gT, gZ, gS]; rfl) (fun K hK => ?_)
  rw [if_pos (by rfl)]
  (with_reducible refine s_ra (w.heap.size + 2) _ (⟨1, pl, (m : Nat), decide (k < 3), (rd : Nat), 0⟩) ha ?_ ?_ ?_)
  · exact rfl
  · exact rfl
  intro V hnew ho
  have hH2 := hide (And.intro (hHeld.1.only ho (by omega)) (And.intro (hHeld.2.1.only ho (by omega)) (ho.bel _ _ (by omega) hHeld.2.2)))
  replace hq := hq.only ho (by omega)
  replace ha := hnew
  clear hHeld
  refine hK.out _ _ ?_ (fun hHeld => ?_)
  · exact hH2.out
  clear hK K
  clear hH2
  refine wpAnyH_done (by kernel_rfl) ?_ _
  have hb := hHeld.2.2
  clear hHeld
  go_wp2
  refine bodyPost_ret (results_two_rows Tryd.results10 _ _ (w.heap.size + 1) (w.heap.size + 2) _ _ _ _ _ _ rfl hq Tryd.underlying28 rfl size_g rfl ha Tryd.underlying37 rfl size_racc) rfl ?_
  exact ⟨rfl, hb⟩

set_option maxRecDepth 100000 in
set_option maxHeartbeats 2000000 in
theorem rdo_4f (h : H) (ok : h.Ok) (op im cs : Int) (rd s1 s2 : Nat) (hrd : rd < 32) (h1 : s1 < 32) (h2 : s2 < 32) (v l : Nat) (s : ByteArray) (hT : Told v ⟨op, (rd : Nat), (s1 : Nat), (s2 : Nat), im, cs⟩ s) (m1 : MissL L1 s) (m2 : MissL L2 s) (m3 : MissL L3 s) (k m : Nat) (hm0 : 0 < m) (hm4 : m ≤ 4) (hk : HitL L4 k s) (hw : (intC [1, 2, 4, 1, 2])[k]? = some (.int .i64 (m : Nat))) (hm : ¬ ((h.x s1 + immN im) % 4294967296) % m = 0) (w : World) :
    Calls Tryd.prog 10 #[.agg h.cells, .int .u32 (v : Nat), .int .u32 (l : Nat)] w fun e w' => e = .returned (.tuple #[.agg (trapH h 4 ((h.x s1 + immN im) % 4294967296)).cells, .agg (noA).cells]) ∧ Below w.heap.size w w' := by
  have HD := hide hT.1
  have HM := hide hT.2
  clear hT
  obtain ⟨n, hn0⟩ : ∃ n, immN im = n := ⟨_, rfl⟩
  have hn : n < 4294967296 := hn0 ▸ immN_lt im
  have HIm : Hid (IntKind.u32.wrap im = ((n : Nat) : Int)) := hide (by rw [IntKind.wrap_u32, ← immN_cast, hn0])
  obtain ⟨nx, hnx0⟩ : ∃ x, (h.pc + 4) % 4294967296 = x := ⟨_, rfl⟩
  have HNx : Hid (IntKind.u32.wrap ((h.pc : Int) + 4) = ((nx : Nat) : Int)) := hide (by rw [IntKind.wrap_u32, ← hnx0]; omega)
  have b1 : (0 : Int) ≤ s1 := by omega
  have b1' : (s1 : Int) < 32 := by omega
  have b2 : (0 : Int) ≤ s2 := by omega
  have b2' : (s2 : Int) < 32 := by omega
  have HP1 := hide (fun N w hr => place_miss L1 10 s rfl (by decide) m1 N w hr)
  have HP2 := hide (fun N w hr => place_miss L2 18 s rfl (by decide) m2 N w hr)
  have HP3 := hide (fun N w hr => place_miss L3 6 s rfl (by decide) m3 N w hr)
  have HP4 := hide (fun N w hr => place_hit L4 5 k s rfl (by decide) hk N w hr)
  clear m1 m2 m3
  obtain ⟨pl, hpl0⟩ : ∃ x, (h.x s1 + n) % 4294967296 = x := ⟨_, rfl⟩
  have epl : ((((h.x s1 : Nat) : Int) + (n : Int)) % 4294967296) = (pl : Int) := by rw [← hpl0]; omega
  have hpl1 : (h.x s1 + immN im) % 4294967296 = pl := by rw [hn0]; exact hpl0
  rw [hpl1] at hm ⊢
  clear hpl1
  have cw := hw
  have tm0 : ((m : Int) == 0) = false := by simp; omega
  have tm1 : (m : Int) ≠ 0 := by omega
  have tm2 : (m : Int) % 4294967296 = m := by omega
  have tm3 : IntKind.u32.wrap (m : Int) = m := by rw [IntKind.wrap_u32]; omega
  have tk : (0 : Int) ≤ (k : Int) := by omega
  have tk5 : (k : Int) < 5 := by have := hk.1; have e : L4.length = 5 := rfl; omega
  have tsg : decide ((k : Int) < 3) = decide (k < 3) := by rw [decide_eq_decide]; omega
  have t2 : (((((h.x s1 : Nat) : Int) + (n : Int)) % 4294967296) % (m : Int) != 0) = true := by rw [epl]; (have e9 : ((pl : Int) % (m : Int)) = ((pl % m : Nat) : Int) := by simp); rw [e9]; generalize pl % m = q at hm; simp; omega
  have HX := hide (fun w => rtrap8 h ok 4 pl (by decide) w)
  rw [show (((4 : Nat) : Int)) = 4 from rfl] at HX
  go_enter Tryd.func10, Tryd.ntmps10
  go_wp2_with (first | ((with_reducible refine bx_g w.heap.size h ?_ ?_ ?_); exact rfl; exact rfl; intro W hr hb hz) | ((with_reducible refine al_g (w.heap.size + 1) ?_ ?_); exact hz.out; intro W hq hb' hz'; obtain ⟨hr, hb⟩ := an1 hz hb' hr hb; replace hz := hz') | ((with_reducible refine al_ra (w.heap.size + 2) ?_ ?_); exact hz.out; intro W ha hb' hz'; obtain ⟨hr, hq, hb⟩ := an2 hz hb' hr hq hb; replace hz := hz') | (go_at_call 28; (with_reducible refine (HD.out _).mono ?_); rintro e W ⟨rfl, hbc⟩; replace hr := hr.bl hbc; replace hq := hq.bl hbc; replace ha := ha.bl hbc; obtain ⟨NI, hNI⟩ : ∃ n, W.heap.size = n := ⟨_, rfl⟩; have lNI : w.heap.size + 3 ≤ NI := (by (have := ha.lt; omega)); replace hNI := hide hNI; replace hb := below_bl rfl hb hbc) | ((with_reducible refine al_ri NI ?_ ?_); exact hNI.out; intro W hi hb' hzI; obtain ⟨hr, hq, ha, hb⟩ := an3 hNI hb' hr hq ha hb) | ((with_reducible refine st_ri NI _ ⟨op, (rd : Nat), (s1 : Nat), (s2 : Nat), im, cs⟩ hi ?_ ?_ ?_); exact rfl; exact rfl; intro W hnew ho; obtain ⟨hr, hq, ha, hb⟩ := on3 ho hr hq ha hb; replace hi := hnew))
  replace hq := hq.dr
  replace ha := ha.dr
  refine wp_region_held_drew (S := (fun V => RowAt V w.heap.size h.cells 28 ∧ RowAt V NI (I6.cells ⟨op, (rd : Nat), (s1 : Nat), (s2 : Nat), im, cs⟩) 69 ∧ Below w.heap.size w V)) (by kernel_rfl) ?_ (fun hHeld => ?_)
  · exact ⟨hr.dr, hi.dr, hb.drew⟩
  generalize W.drew = V at hHeld hq ha ⊢
  clear hr hi hb
  refine tkO 0 (.pointer (some ⟨NI, 2, none⟩)) (by simp only [gT, gZ]; rfl) (puO (by (intro w hSw; (try dsimp only at hSw); go_simp))) ?_
  simp only [Act.put, pA, pZ, pS]
  refine tkO 1 (.int .i64 (s1 : Nat)) (by simp only [gT, gZ, gS]; rfl) (y_int NI 2 (s1 : Nat) (fun V hV => (hV.2.1.cell 2).trans rfl) rfl) ?_
  simp only [Act.put, pA, pZ, pS]
  refine tkO 2 (.pointer (some ⟨w.heap.size, 1, none⟩)) (by simp only [gT, gZ, gS]; rfl) (puO (by (intro w hSw; (try dsimp only at hSw); go_simp))) ?_
  simp only [Act.put, pA, pZ, pS]
  refine tkO 3 (.pointer (some ⟨w.heap.size, 1 + s1, none⟩)) (by simp only [gT, gZ, gS]; rfl) (puO (by (intro w hSw; (try dsimp only at hSw); go_simp))) ?_
  simp only [Act.put, pA, pZ, pS]
  refine tkO 4 (.int .u32 (h.x s1 : Nat)) (by simp only [gT, gZ, gS]; rfl) (y_word w.heap.size (1 + s1) _ (fun V hV => (hV.1.cell (1 + s1)).trans (h.cell_x s1 h1)) rfl) ?_
  simp only [Act.put, pA, pZ, pS]
  refine tkO 5 (.pointer (some ⟨NI, 3, none⟩)) (by simp only [gT, gZ, gS]; rfl) (puO (by (intro w hSw; (try dsimp only at hSw); go_simp))) ?_
  simp only [Act.put, pA, pZ, pS]
  refine tkO 6 (.int .i64 (s2 : Nat)) (by simp only [gT, gZ, gS]; rfl) (y_int NI 3 (s2 : Nat) (fun V hV => (hV.2.1.cell 3).trans rfl) rfl) ?_
  simp only [Act.put, pA, pZ, pS]
  refine tkO 7 (.pointer (some ⟨w.heap.size, 1, none⟩)) (by simp only [gT, gZ, gS]; rfl) (puO (by (intro w hSw; (try dsimp only at hSw); go_simp))) ?_
  simp only [Act.put, pA, pZ, pS]
  refine tkO 8 (.pointer (some ⟨w.heap.size, 1 + s2, none⟩)) (by simp only [gT, gZ, gS]; rfl) (puO (by (intro w hSw; (try dsimp only at hSw); go_simp))) ?_
  simp only [Act.put, pA, pZ, pS]
  refine tkO 9 (.int .u32 (h.x s2 : Nat)) (by simp only [gT, gZ, gS]; rfl) (y_word w.heap.size (1 + s2) _ (fun V hV => (hV.1.cell (1 + s2)).trans (h.cell_x s2 h2)) rfl) ?_
  simp only [Act.put, pA, pZ, pS]
  refine tkO 10 (.pointer (some ⟨NI, 4, none⟩)) (by simp only [gT, gZ, gS]; rfl) (puO (by (intro w hSw; (try dsimp only at hSw); go_simp))) ?_
  simp only [Act.put, pA, pZ, pS]
  refine tkO 11 (.int .i64 im) (by simp only [gT, gZ, gS]; rfl) (y_int NI 4 im (fun V hV => (hV.2.1.cell 4).trans rfl) rfl) ?_
  simp only [Act.put, pA, pZ, pS]
  refine tkO 12 (.int .u32 (n : Nat)) (by simp only [gT, gZ, gS]; rfl) (puO (by (intro w hSw; (try dsimp only at hSw); go_simp; exact HIm.out))) ?_
  simp only [Act.put, pA, pZ, pS]
  refine tkO 13 (.pointer (some ⟨w.heap.size, 0, none⟩)) (by simp only [gT, gZ, gS]; rfl) (puO (by (intro w hSw; (try dsimp only at hSw); go_simp))) ?_
  simp only [Act.put, pA, pZ, pS]
  refine tkO 14 (.int .u32 (h.pc : Nat)) (by simp only [gT, gZ, gS]; rfl) (y_word w.heap.size 0 (h.pc : Nat) (fun V hV => hV.1.cell 0) rfl) ?_
  simp only [Act.put, pA, pZ, pS]
  refine tkO 15 (.int .u32 (nx : Nat)) (by simp only [gT, gZ, gS]; rfl) (puO (by (intro w hSw; (try dsimp only at hSw); go_simp; exact HNx.out))) ?_
  simp only [Act.put, pA, pZ, pS]
  refine tkO 16 (.int .u32 (h.x s1 : Nat)) (by simp only [gT, gZ, gS]; rfl) (puO (by (intro w hSw; (try dsimp only at hSw); go_simp))) ?_
  simp only [Act.put, pA, pZ, pS]
  refine tkO 17 (.int .u32 (h.x s2 : Nat)) (by simp only [gT, gZ, gS]; rfl) (puO (by (intro w hSw; (try dsimp only at hSw); go_simp))) ?_
  simp only [Act.put, pA, pZ, pS]
  refine tkO 18 (.int .u32 (n : Nat)) (by simp only [gT, gZ, gS]; rfl) (puO (by (intro w hSw; (try dsimp only at hSw); go_simp))) ?_
  simp only [Act.put, pA, pZ, pS]
  refine tkO 19 (.int .u32 (nx : Nat)) (by simp only [gT, gZ, gS]; rfl) (puO (by (intro w hSw; (try dsimp only at hSw); go_simp))) ?_
  simp only [Act.put, pA, pZ, pS]
  refine wpAnyH_done (by kernel_rfl) ?_ _
  have hr := hHeld.1
  have hi := hHeld.2.1
  have hb := hHeld.2.2
  clear hHeld
  go_wp2_with (first | ((with_reducible refine ld_rij NI 0 op _ _ hi ?_ ?_ ?_); exact rfl; exact rfl) | (go_at_call 30; (with_reducible refine (HM.out _).mono ?_); rintro e W ⟨rfl, hbc⟩; replace hr := hr.bl hbc; replace hq := hq.bl hbc; replace ha := ha.bl hbc; replace hi := hi.bl hbc; obtain ⟨M1, hM1⟩ : ∃ n, W.heap.size = n := ⟨_, rfl⟩; have lM1 : NI + 1 ≤ M1 := (by (have := hi.lt; omega)); replace hM1 := hide hM1; replace hb := below_bl rfl hb hbc) | ((with_reducible refine bs_lst L1 10 M1 ?_ ?_ ?_); exact hM1.out; kernel_rfl; intro W hl1 hb' hzM1; obtain ⟨hr, hq, ha, hi, hb⟩ := an4 hM1 hb' hr hq ha hi hb) | (go_at_call 31; (with_reducible refine (HP1.out _ _ hl1).mono ?_); rintro e W2 ⟨rfl, rfl⟩) | ((with_reducible refine bs_lst L2 18 (M1 + 1) ?_ ?_ ?_); exact hzM1.out; kernel_rfl; intro W hl2 hb' hzM2; obtain ⟨hr, hq, ha, hi, hb⟩ := an4 hzM1 hb' hr hq ha hi hb) | (go_at_call 31; (with_reducible refine (HP2.out _ _ hl2).mono ?_); rintro e W2 ⟨rfl, rfl⟩) | ((with_reducible refine bs_lst L3 6 (M1 + 2) ?_ ?_ ?_); exact hzM2.out; kernel_rfl; intro W hl3 hb' hzM3; obtain ⟨hr, hq, ha, hi, hb⟩ := an4 hzM2 hb' hr hq ha hi hb) | (go_at_call 31; (with_reducible refine (HP3.out _ _ hl3).mono ?_); rintro e W2 ⟨rfl, rfl⟩) | ((with_reducible refine bs_lst L4 5 (M1 + 3) ?_ ?_ ?_); exact hzM3.out; kernel_rfl; intro W hl4 hb' hzM4; obtain ⟨hr, hq, ha, hi, hb⟩ := an4 hzM3 hb' hr hq ha hi hb) | (go_at_call 31; (with_reducible refine (HP4.out _ _ hl4).mono ?_); rintro e W2 ⟨rfl, rfl⟩) | ((with_reducible refine bs_int [1, 2, 4, 1, 2] 5 (M1 + 4) ?_ ?_ ?_); exact hzM4.out; kernel_rfl; intro W hw5 hb' hzW; obtain ⟨hr, hq, ha, hi, hb⟩ := an4 hzM4 hb' hr hq ha hi hb) | ((with_reducible refine ld_rij (M1 + 4) k (m : Nat) _ _ hw5 ?_ ?_ ?_); exact cw; exact rfl) | ((with_reducible refine ld_g w.heap.size _ hr ?_ ?_); exact rfl) | (go_at_call 29; (with_reducible refine (HX.out _).mono ?_); rintro e W ⟨rfl, hbc⟩; obtain ⟨hr, hq, ha, hi, hb⟩ := bl4 hbc hr hq ha hi hb) | ((with_reducible refine st_g (w.heap.size + 1) _ (trapH h 4 pl) hq ?_ ?_ ?_); exact rfl; exact rfl; intro W hnew ho; obtain ⟨hr, ha, hi, hb⟩ := on3 ho hr ha hi hb; replace hq := hnew) | ((with_reducible refine st_ra (w.heap.size + 2) _ (noA) ha ?_ ?_ ?_); exact rfl; exact rfl; intro W hnew ho; obtain ⟨hr, hq, hi, hb⟩ := on3 ho hr hq hi hb; replace ha := hnew))
  refine bodyPost_ret (results_two_rows Tryd.results10 _ _ (w.heap.size + 1) (w.heap.size + 2) _ _ _ _ _ _ rfl hq Tryd.underlying28 rfl size_g rfl ha Tryd.underlying37 rfl size_racc) rfl ?_
  exact ⟨rfl, hb⟩

end Go.Proofs.YtchjhpeogdkbmaaDoor
namespace Go.Proofs.YtchjhpeogdkbmaaDoor
open Go.RowKit
set_option linter.unusedVariables false

set_option maxRecDepth 100000 in
set_option maxHeartbeats 2000000 in
theorem rdo_5t (h : H) (ok : h.Ok) (op im cs : Int) (rd s1 s2 : Nat) (hrd : rd < 32) (h1 : s1 < 32) (h2 : s2 < 32) (v l : Nat) (s : ByteArray) (hT : Told v ⟨op, (rd : Nat), (s1 : Nat), (s2 : Nat), im, cs⟩ s) (m1 : MissL L1 s) (m2 : MissL L2 s) (m3 : MissL L3 s) (m4 : MissL L4 s) (k m : Nat) (hm0 : 0 < m) (hm4 : m ≤ 4) (hk : HitL L5 k s) (hw : (intC [1, 2, 4])[k]? = some (.int .i64 (m : Nat))) (hm : ((h.x s1 + immN im) % 4294967296) % m = 0) (w : World) :
    Calls Tryd.prog 10 #[.agg h.cells, .int .u32 (v : Nat), .int .u32 (l : Nat)] w fun e w' => e = .returned (.tuple #[.agg (h).cells, .agg ((⟨2, (h.x s1 + immN im) % 4294967296, (m : Nat), false, 0, h.x s2⟩ : A6)).cells]) ∧ Below w.heap.size w w' := by
  have HD := hide hT.1
  have HM := hide hT.2
  clear hT
  obtain ⟨n, hn0⟩ : ∃ n, immN im = n := ⟨_, rfl⟩
  have hn : n < 4294967296 := hn0 ▸ immN_lt im
  have HIm : Hid (IntKind.u32.wrap im = ((n : Nat) : Int)) := hide (by rw [IntKind.wrap_u32, ← immN_cast, hn0])
  obtain ⟨nx, hnx0⟩ : ∃ x, (h.pc + 4) % 4294967296 = x := ⟨_, rfl⟩
  have HNx : Hid (IntKind.u32.wrap ((h.pc : Int) + 4) = ((nx : Nat) : Int)) := hide (by rw [IntKind.wrap_u32, ← hnx0]; omega)
  have b1 : (0 : Int) ≤ s1 := by omega
  have b1' : (s1 : Int) < 32 := by omega
  have b2 : (0 : Int) ≤ s2 := by omega
  have b2' : (s2 : Int) < 32 := by omega
  have HP1 := hide (fun N w hr => place_miss L1 10 s rfl (by decide) m1 N w hr)
  have HP2 := hide (fun N w hr => place_miss L2 18 s rfl (by decide) m2 N w hr)
  have HP3 := hide (fun N w hr => place_miss L3 6 s rfl (by decide) m3 N w hr)
  have HP4 := hide (fun N w hr => place_miss L4 5 s rfl (by decide) m4 N w hr)
  have HP5 := hide (fun N w hr => place_hit L5 3 k s rfl (by decide) hk N w hr)
  clear m1 m2 m3 m4
  obtain ⟨pl, hpl0⟩ : ∃ x, (h.x s1 + n) % 4294967296 = x := ⟨_, rfl⟩
  have epl : ((((h.x s1 : Nat) : Int) + (n : Int)) % 4294967296) = (pl : Int) := by rw [← hpl0]; omega
  have hpl1 : (h.x s1 + immN im) % 4294967296 = pl := by rw [hn0]; exact hpl0
  rw [hpl1] at hm ⊢
  clear hpl1
  have cw := hw
  have tm0 : ((m : Int) == 0) = false := by simp; omega
  have tm1 : (m : Int) ≠ 0 := by omega
  have tm2 : (m : Int) % 4294967296 = m := by omega
  have tm3 : IntKind.u32.wrap (m : Int) = m := by rw [IntKind.wrap_u32]; omega
  have tk : (0 : Int) ≤ (k : Int) := by omega
  have tk5 : (k : Int) < 3 := by have := hk.1; have e : L5.length = 3 := rfl; omega
  have t2 : (((((h.x s1 : Nat) : Int) + (n : Int)) % 4294967296) % (m : Int) != 0) = false := by rw [epl]; (have e9 : ((pl : Int) % (m : Int)) = ((pl % m : Nat) : Int) := by simp); rw [e9, hm]; rfl
  have EA : Hid (#[Value.int .i64 2, .int .u32 ((((h.x s1 : Nat) : Int) + (n : Int)) % 4294967296), .int .i64 (m : Nat), .bool false, .int .i64 0, .int .u32 ((h.x s2 : Nat) : Int)] = (A6.cells ⟨2, pl, (m : Nat), false, 0, h.x s2⟩)) := hide (by rw [epl]; rfl)
  go_enter Tryd.func10, Tryd.ntmps10
  go_wp2_with (first | ((with_reducible refine bx_g w.heap.size h ?_ ?_ ?_); exact rfl; exact rfl; intro W hr hb hz) | ((with_reducible refine al_g (w.heap.size + 1) ?_ ?_); exact hz.out; intro W hq hb' hz'; obtain ⟨hr, hb⟩ := an1 hz hb' hr hb; replace hz := hz') | ((with_reducible refine al_ra (w.heap.size + 2) ?_ ?_); exact hz.out; intro W ha hb' hz'; obtain ⟨hr, hq, hb⟩ := an2 hz hb' hr hq hb; replace hz := hz') | (go_at_call 28; (with_reducible refine (HD.out _).mono ?_); rintro e W ⟨rfl, hbc⟩; replace hr := hr.bl hbc; replace hq := hq.bl hbc; replace ha := ha.bl hbc; obtain ⟨NI, hNI⟩ : ∃ n, W.heap.size = n := ⟨_, rfl⟩; have lNI : w.heap.size + 3 ≤ NI := (by (have := ha.lt; omega)); replace hNI := hide hNI; replace hb := below_bl rfl hb hbc) | ((with_reducible refine al_ri NI ?_ ?_); exact hNI.out; intro W hi hb' hzI; obtain ⟨hr, hq, ha, hb⟩ := an3 hNI hb' hr hq ha hb) | ((with_reducible refine st_ri NI _ ⟨op, (rd : Nat), (s1 : Nat), (s2 : Nat), im, cs⟩ hi ?_ ?_ ?_); exact rfl; exact rfl; intro W hnew ho; obtain ⟨hr, hq, ha, hb⟩ := on3 ho hr hq ha hb; replace hi := hnew))
  replace hq := hq.dr
  replace ha := ha.dr
  refine wp_region_held_drew (S := (fun V => RowAt V w.heap.size h.cells 28 ∧ RowAt V NI (I6.cells ⟨op, (rd : Nat), (s1 : Nat), (s2 : Nat), im, cs⟩) 69 ∧ Below w.heap.size w V)) (by kernel_rfl) ?_ (fun hHeld => ?_)
  · exact ⟨hr.dr, hi.dr, hb.drew⟩
  generalize W.drew = V at hHeld hq ha ⊢
  clear hr hi hb
  refine tkO 0 (.pointer (some ⟨NI, 2, none⟩)) (by simp only [gT, gZ]; rfl) (puO (by (intro w hSw; (try dsimp only at hSw); go_simp))) ?_
  simp only [Act.put, pA, pZ, pS]
  refine tkO 1 (.int .i64 (s1 : Nat)) (by simp only [gT, gZ, gS]; rfl) (y_int NI 2 (s1 : Nat) (fun V hV => (hV.2.1.cell 2).trans rfl) rfl) ?_
  simp only [Act.put, pA, pZ, pS]
  refine tkO 2 (.pointer (some ⟨w.heap.size, 1, none⟩)) (by simp only [gT, gZ, gS]; rfl) (puO (by (intro w hSw; (try dsimp only at hSw); go_simp))) ?_
  simp only [Act.put, pA, pZ, pS]
  refine tkO 3 (.pointer (some ⟨w.heap.size, 1 + s1, none⟩)) (by simp only [gT, gZ, gS]; rfl) (puO (by (intro w hSw; (try dsimp only at hSw); go_simp))) ?_
  simp only [Act.put, pA, pZ, pS]
  refine tkO 4 (.int .u32 (h.x s1 : Nat)) (by simp only [gT, gZ, gS]; rfl) (y_word w.heap.size (1 + s1) _ (fun V hV => (hV.1.cell (1 + s1)).trans (h.cell_x s1 h1)) rfl) ?_
  simp only [Act.put, pA, pZ, pS]
  refine tkO 5 (.pointer (some ⟨NI, 3, none⟩)) (by simp only [gT, gZ, gS]; rfl) (puO (by (intro w hSw; (try dsimp only at hSw); go_simp))) ?_
  simp only [Act.put, pA, pZ, pS]
  refine tkO 6 (.int .i64 (s2 : Nat)) (by simp only [gT, gZ, gS]; rfl) (y_int NI 3 (s2 : Nat) (fun V hV => (hV.2.1.cell 3).trans rfl) rfl) ?_
  simp only [Act.put, pA, pZ, pS]
  refine tkO 7 (.pointer (some ⟨w.heap.size, 1, none⟩)) (by simp only [gT, gZ, gS]; rfl) (puO (by (intro w hSw; (try dsimp only at hSw); go_simp))) ?_
  simp only [Act.put, pA, pZ, pS]
  refine tkO 8 (.pointer (some ⟨w.heap.size, 1 + s2, none⟩)) (by simp only [gT, gZ, gS]; rfl) (puO (by (intro w hSw; (try dsimp only at hSw); go_simp))) ?_
  simp only [Act.put, pA, pZ, pS]
  refine tkO 9 (.int .u32 (h.x s2 : Nat)) (by simp only [gT, gZ, gS]; rfl) (y_word w.heap.size (1 + s2) _ (fun V hV => (hV.1.cell (1 + s2)).trans (h.cell_x s2 h2)) rfl) ?_
  simp only [Act.put, pA, pZ, pS]
  refine tkO 10 (.pointer (some ⟨NI, 4, none⟩)) (by simp only [gT, gZ, gS]; rfl) (puO (by (intro w hSw; (try dsimp only at hSw); go_simp))) ?_
  simp only [Act.put, pA, pZ, pS]
  refine tkO 11 (.int .i64 im) (by simp only [gT, gZ, gS]; rfl) (y_int NI 4 im (fun V hV => (hV.2.1.cell 4).trans rfl) rfl) ?_
  simp only [Act.put, pA, pZ, pS]
  refine tkO 12 (.int .u32 (n : Nat)) (by simp only [gT, gZ, gS]; rfl) (puO (by (intro w hSw; (try dsimp only at hSw); go_simp; exact HIm.out))) ?_
  simp only [Act.put, pA, pZ, pS]
  refine tkO 13 (.pointer (some ⟨w.heap.size, 0, none⟩)) (by simp only [gT, gZ, gS]; rfl) (puO (by (intro w hSw; (try dsimp only at hSw); go_simp))) ?_
  simp only [Act.put, pA, pZ, pS]
  refine tkO 14 (.int .u32 (h.pc : Nat)) (by simp only [gT, gZ, gS]; rfl) (y_word w.heap.size 0 (h.pc : Nat) (fun V hV => hV.1.cell 0) rfl) ?_
  simp only [Act.put, pA, pZ, pS]
  refine tkO 15 (.int .u32 (nx : Nat)) (by simp only [gT, gZ, gS]; rfl) (puO (by (intro w hSw; (try dsimp only at hSw); go_simp; exact HNx.out))) ?_
  simp only [Act.put, pA, pZ, pS]
  refine tkO 16 (.int .u32 (h.x s1 : Nat)) (by simp only [gT, gZ, gS]; rfl) (puO (by (intro w hSw; (try dsimp only at hSw); go_simp))) ?_
  simp only [Act.put, pA, pZ, pS]
  refine tkO 17 (.int .u32 (h.x s2 : Nat)) (by simp only [gT, gZ, gS]; rfl) (puO (by (intro w hSw; (try dsimp only at hSw); go_simp))) ?_
  simp only [Act.put, pA, pZ, pS]
  refine tkO 18 (.int .u32 (n : Nat)) (by simp only [gT, gZ, gS]; rfl) (puO (by (intro w hSw; (try dsimp only at hSw); go_simp))) ?_
  simp only [Act.put, pA, pZ, pS]
  refine tkO 19 (.int .u32 (nx : Nat)) (by simp only [gT, gZ, gS]; rfl) (puO (by (intro w hSw; (try dsimp only at hSw); go_simp))) ?_
  simp only [Act.put, pA, pZ, pS]
  refine wpAnyH_done (by kernel_rfl) ?_ _
  have hr := hHeld.1
  have hi := hHeld.2.1
  have hb := hHeld.2.2
  clear hHeld
  go_wp2_with (first | ((with_reducible refine ld_rij NI 0 op _ _ hi ?_ ?_ ?_); exact rfl; exact rfl) | (go_at_call 30; (with_reducible refine (HM.out _).mono ?_); rintro e W ⟨rfl, hbc⟩; replace hr := hr.bl hbc; replace hq := hq.bl hbc; replace ha := ha.bl hbc; replace hi := hi.bl hbc; obtain ⟨M1, hM1⟩ : ∃ n, W.heap.size = n := ⟨_, rfl⟩; have lM1 : NI + 1 ≤ M1 := (by (have := hi.lt; omega)); replace hM1 := hide hM1; replace hb := below_bl rfl hb hbc) | ((with_reducible refine bs_lst L1 10 M1 ?_ ?_ ?_); exact hM1.out; kernel_rfl; intro W hl1 hb' hzM1; obtain ⟨hr, hq, ha, hi, hb⟩ := an4 hM1 hb' hr hq ha hi hb) | (go_at_call 31; (with_reducible refine (HP1.out _ _ hl1).mono ?_); rintro e W2 ⟨rfl, rfl⟩) | ((with_reducible refine bs_lst L2 18 (M1 + 1) ?_ ?_ ?_); exact hzM1.out; kernel_rfl; intro W hl2 hb' hzM2; obtain ⟨hr, hq, ha, hi, hb⟩ := an4 hzM1 hb' hr hq ha hi hb) | (go_at_call 31; (with_reducible refine (HP2.out _ _ hl2).mono ?_); rintro e W2 ⟨rfl, rfl⟩) | ((with_reducible refine bs_lst L3 6 (M1 + 2) ?_ ?_ ?_); exact hzM2.out; kernel_rfl; intro W hl3 hb' hzM3; obtain ⟨hr, hq, ha, hi, hb⟩ := an4 hzM2 hb' hr hq ha hi hb) | (go_at_call 31; (with_reducible refine (HP3.out _ _ hl3).mono ?_); rintro e W2 ⟨rfl, rfl⟩) | ((with_reducible refine bs_lst L4 5 (M1 + 3) ?_ ?_ ?_); exact hzM3.out; kernel_rfl; intro W hl4 hb' hzM4; obtain ⟨hr, hq, ha, hi, hb⟩ := an4 hzM3 hb' hr hq ha hi hb) | (go_at_call 31; (with_reducible refine (HP4.out _ _ hl4).mono ?_); rintro e W2 ⟨rfl, rfl⟩) | ((with_reducible refine bs_lst L5 3 (M1 + 4) ?_ ?_ ?_); exact hzM4.out; kernel_rfl; intro W hl5 hb' hzM5; obtain ⟨hr, hq, ha, hi, hb⟩ := an4 hzM4 hb' hr hq ha hi hb) | (go_at_call 31; (with_reducible refine (HP5.out _ _ hl5).mono ?_); rintro e W2 ⟨rfl, rfl⟩) | ((with_reducible refine bs_int [1, 2, 4] 3 (M1 + 5) ?_ ?_ ?_); exact hzM5.out; kernel_rfl; intro W hw5 hb' hzW; obtain ⟨hr, hq, ha, hi, hb⟩ := an4 hzM5 hb' hr hq ha hi hb) | ((with_reducible refine ld_rij (M1 + 5) k (m : Nat) _ _ hw5 ?_ ?_ ?_); exact cw; exact rfl) | ((with_reducible refine ld_g w.heap.size _ hr ?_ ?_); exact rfl) | ((with_reducible refine st_g (w.heap.size + 1) _ (h) hq ?_ ?_ ?_); exact rfl; exact rfl; intro W hnew ho; obtain ⟨hr, ha, hi, hb⟩ := on3 ho hr ha hi hb; replace hq := hnew) | ((with_reducible refine st_ra (w.heap.size + 2) _ (⟨2, pl, (m : Nat), false, 0, h.x s2⟩) ha ?_ ?_ ?_); exact rfl; (first | exact rfl | (rw [← EA.out]; exact rfl)); intro W hnew ho; obtain ⟨hr, hq, hi, hb⟩ := on3 ho hr hq hi hb; replace ha := hnew))
  refine bodyPost_ret (results_two_rows Tryd.results10 _ _ (w.heap.size + 1) (w.heap.size + 2) _ _ _ _ _ _ rfl hq Tryd.underlying28 rfl size_g rfl ha Tryd.underlying37 rfl size_racc) rfl ?_
  exact ⟨rfl, hb⟩

set_option maxRecDepth 100000 in
set_option maxHeartbeats 2000000 in
theorem rdo_5f (h : H) (ok : h.Ok) (op im cs : Int) (rd s1 s2 : Nat) (hrd : rd < 32) (h1 : s1 < 32) (h2 : s2 < 32) (v l : Nat) (s : ByteArray) (hT : Told v ⟨op, (rd : Nat), (s1 : Nat), (s2 : Nat), im, cs⟩ s) (m1 : MissL L1 s) (m2 : MissL L2 s) (m3 : MissL L3 s) (m4 : MissL L4 s) (k m : Nat) (hm0 : 0 < m) (hm4 : m ≤ 4) (hk : HitL L5 k s) (hw : (intC [1, 2, 4])[k]? = some (.int .i64 (m : Nat))) (hm : ¬ ((h.x s1 + immN im) % 4294967296) % m = 0) (w : World) :
    Calls Tryd.prog 10 #[.agg h.cells, .int .u32 (v : Nat), .int .u32 (l : Nat)] w fun e w' => e = .returned (.tuple #[.agg (trapH h 6 ((h.x s1 + immN im) % 4294967296)).cells, .agg (noA).cells]) ∧ Below w.heap.size w w' := by
  have HD := hide hT.1
  have HM := hide hT.2
  clear hT
  obtain ⟨n, hn0⟩ : ∃ n, immN im = n := ⟨_, rfl⟩
  have hn : n < 4294967296 := hn0 ▸ immN_lt im
  have HIm : Hid (IntKind.u32.wrap im = ((n : Nat) : Int)) := hide (by rw [IntKind.wrap_u32, ← immN_cast, hn0])
  obtain ⟨nx, hnx0⟩ : ∃ x, (h.pc + 4) % 4294967296 = x := ⟨_, rfl⟩
  have HNx : Hid (IntKind.u32.wrap ((h.pc : Int) + 4) = ((nx : Nat) : Int)) := hide (by rw [IntKind.wrap_u32, ← hnx0]; omega)
  have b1 : (0 : Int) ≤ s1 := by omega
  have b1' : (s1 : Int) < 32 := by omega
  have b2 : (0 : Int) ≤ s2 := by omega
  have b2' : (s2 : Int) < 32 := by omega
  have HP1 := hide (fun N w hr => place_miss L1 10 s rfl (by decide) m1 N w hr)
  have HP2 := hide (fun N w hr => place_miss L2 18 s rfl (by decide) m2 N w hr)
  have HP3 := hide (fun N w hr => place_miss L3 6 s rfl (by decide) m3 N w hr)
  have HP4 := hide (fun N w hr => place_miss L4 5 s rfl (by decide) m4 N w hr)
  have HP5 := hide (fun N w hr => place_hit L5 3 k s rfl (by decide) hk N w hr)
  clear m1 m2 m3 m4
  obtain ⟨pl, hpl0⟩ : ∃ x, (h.x s1 + n) % 4294967296 = x := ⟨_, rfl⟩
  have epl : ((((h.x s1 : Nat) : Int) + (n : Int)) % 4294967296) = (pl : Int) := by rw [← hpl0]; omega
  have hpl1 : (h.x s1 + immN im) % 4294967296 = pl := by rw [hn0]; exact hpl0
  rw [hpl1] at hm ⊢
  clear hpl1
  have cw := hw
  have tm0 : ((m : Int) == 0) = false := by simp; omega
  have tm1 : (m : Int) ≠ 0 := by omega
  have tm2 : (m : Int) % 4294967296 = m := by omega
  have tm3 : IntKind.u32.wrap (m : Int) = m := by rw [IntKind.wrap_u32]; omega
  have tk : (0 : Int) ≤ (k : Int) := by omega
  have tk5 : (k : Int) < 3 := by have := hk.1; have e : L5.length = 3 := rfl; omega
  have t2 : (((((h.x s1 : Nat) : Int) + (n : Int)) % 4294967296) % (m : Int) != 0) = true := by rw [epl]; (have e9 : ((pl : Int) % (m : Int)) = ((pl % m : Nat) : Int) := by simp); rw [e9]; generalize pl % m = q at hm; simp; omega
  have HX := hide (fun w => rtrap8 h ok 6 pl (by decide) w)
  rw [show (((6 : Nat) : Int)) = 6 from rfl] at HX
  go_enter Tryd.func10, Tryd.ntmps10
  go_wp2_with (first | ((with_reducible refine bx_g w.heap.size h ?_ ?_ ?_); exact rfl; exact rfl; intro W hr hb hz) | ((with_reducible refine al_g (w.heap.size + 1) ?_ ?_); exact hz.out; intro W hq hb' hz'; obtain ⟨hr, hb⟩ := an1 hz hb' hr hb; replace hz := hz') | ((with_reducible refine al_ra (w.heap.size + 2) ?_ ?_); exact hz.out; intro W ha hb' hz'; obtain ⟨hr, hq, hb⟩ := an2 hz hb' hr hq hb; replace hz := hz') | (go_at_call 28; (with_reducible refine (HD.out _).mono ?_); rintro e W ⟨rfl, hbc⟩; replace hr := hr.bl hbc; replace hq := hq.bl hbc; replace ha := ha.bl hbc; obtain ⟨NI, hNI⟩ : ∃ n, W.heap.size = n := ⟨_, rfl⟩; have lNI : w.heap.size + 3 ≤ NI := (by (have := ha.lt; omega)); replace hNI := hide hNI; replace hb := below_bl rfl hb hbc) | ((with_reducible refine al_ri NI ?_ ?_); exact hNI.out; intro W hi hb' hzI; obtain ⟨hr, hq, ha, hb⟩ := an3 hNI hb' hr hq ha hb) | ((with_reducible refine st_ri NI _ ⟨op, (rd : Nat), (s1 : Nat), (s2 : Nat), im, cs⟩ hi ?_ ?_ ?_); exact rfl; exact rfl; intro W hnew ho; obtain ⟨hr, hq, ha, hb⟩ := on3 ho hr hq ha hb; replace hi := hnew))
  replace hq := hq.dr
  replace ha := ha.dr
  refine wp_region_held_drew (S := (fun V => RowAt V w.heap.size h.cells 28 ∧ RowAt V NI (I6.cells ⟨op, (rd : Nat), (s1 : Nat), (s2 : Nat), im, cs⟩) 69 ∧ Below w.heap.size w V)) (by kernel_rfl) ?_ (fun hHeld => ?_)
  · exact ⟨hr.dr, hi.dr, hb.drew⟩
  generalize W.drew = V at hHeld hq ha ⊢
  clear hr hi hb
  refine tkO 0 (.pointer (some ⟨NI, 2, none⟩)) (by simp only [gT, gZ]; rfl) (puO (by (intro w hSw; (try dsimp only at hSw); go_simp))) ?_
  simp only [Act.put, pA, pZ, pS]
  refine tkO 1 (.int .i64 (s1 : Nat)) (by simp only [gT, gZ, gS]; rfl) (y_int NI 2 (s1 : Nat) (fun V hV => (hV.2.1.cell 2).trans rfl) rfl) ?_
  simp only [Act.put, pA, pZ, pS]
  refine tkO 2 (.pointer (some ⟨w.heap.size, 1, none⟩)) (by simp only [gT, gZ, gS]; rfl) (puO (by (intro w hSw; (try dsimp only at hSw); go_simp))) ?_
  simp only [Act.put, pA, pZ, pS]
  refine tkO 3 (.pointer (some ⟨w.heap.size, 1 + s1, none⟩)) (by simp only [gT, gZ, gS]; rfl) (puO (by (intro w hSw; (try dsimp only at hSw); go_simp))) ?_
  simp only [Act.put, pA, pZ, pS]
  refine tkO 4 (.int .u32 (h.x s1 : Nat)) (by simp only [gT, gZ, gS]; rfl) (y_word w.heap.size (1 + s1) _ (fun V hV => (hV.1.cell (1 + s1)).trans (h.cell_x s1 h1)) rfl) ?_
  simp only [Act.put, pA, pZ, pS]
  refine tkO 5 (.pointer (some ⟨NI, 3, none⟩)) (by simp only [gT, gZ, gS]; rfl) (puO (by (intro w hSw; (try dsimp only at hSw); go_simp))) ?_
  simp only [Act.put, pA, pZ, pS]
  refine tkO 6 (.int .i64 (s2 : Nat)) (by simp only [gT, gZ, gS]; rfl) (y_int NI 3 (s2 : Nat) (fun V hV => (hV.2.1.cell 3).trans rfl) rfl) ?_
  simp only [Act.put, pA, pZ, pS]
  refine tkO 7 (.pointer (some ⟨w.heap.size, 1, none⟩)) (by simp only [gT, gZ, gS]; rfl) (puO (by (intro w hSw; (try dsimp only at hSw); go_simp))) ?_
  simp only [Act.put, pA, pZ, pS]
  refine tkO 8 (.pointer (some ⟨w.heap.size, 1 + s2, none⟩)) (by simp only [gT, gZ, gS]; rfl) (puO (by (intro w hSw; (try dsimp only at hSw); go_simp))) ?_
  simp only [Act.put, pA, pZ, pS]
  refine tkO 9 (.int .u32 (h.x s2 : Nat)) (by simp only [gT, gZ, gS]; rfl) (y_word w.heap.size (1 + s2) _ (fun V hV => (hV.1.cell (1 + s2)).trans (h.cell_x s2 h2)) rfl) ?_
  simp only [Act.put, pA, pZ, pS]
  refine tkO 10 (.pointer (some ⟨NI, 4, none⟩)) (by simp only [gT, gZ, gS]; rfl) (puO (by (intro w hSw; (try dsimp only at hSw); go_simp))) ?_
  simp only [Act.put, pA, pZ, pS]
  refine tkO 11 (.int .i64 im) (by simp only [gT, gZ, gS]; rfl) (y_int NI 4 im (fun V hV => (hV.2.1.cell 4).trans rfl) rfl) ?_
  simp only [Act.put, pA, pZ, pS]
  refine tkO 12 (.int .u32 (n : Nat)) (by simp only [gT, gZ, gS]; rfl) (puO (by (intro w hSw; (try dsimp only at hSw); go_simp; exact HIm.out))) ?_
  simp only [Act.put, pA, pZ, pS]
  refine tkO 13 (.pointer (some ⟨w.heap.size, 0, none⟩)) (by simp only [gT, gZ, gS]; rfl) (puO (by (intro w hSw; (try dsimp only at hSw); go_simp))) ?_
  simp only [Act.put, pA, pZ, pS]
  refine tkO 14 (.int .u32 (h.pc : Nat)) (by simp only [gT, gZ, gS]; rfl) (y_word w.heap.size 0 (h.pc : Nat) (fun V hV => hV.1.cell 0) rfl) ?_
  simp only [Act.put, pA, pZ, pS]
  refine tkO 15 (.int .u32 (nx : Nat)) (by simp only [gT, gZ, gS]; rfl) (puO (by (intro w hSw; (try dsimp only at hSw); go_simp; exact HNx.out))) ?_
  simp only [Act.put, pA, pZ, pS]
  refine tkO 16 (.int .u32 (h.x s1 : Nat)) (by simp only [gT, gZ, gS]; rfl) (puO (by (intro w hSw; (try dsimp only at hSw); go_simp))) ?_
  simp only [Act.put, pA, pZ, pS]
  refine tkO 17 (.int .u32 (h.x s2 : Nat)) (by simp only [gT, gZ, gS]; rfl) (puO (by (intro w hSw; (try dsimp only at hSw); go_simp))) ?_
  simp only [Act.put, pA, pZ, pS]
  refine tkO 18 (.int .u32 (n : Nat)) (by simp only [gT, gZ, gS]; rfl) (puO (by (intro w hSw; (try dsimp only at hSw); go_simp))) ?_
  simp only [Act.put, pA, pZ, pS]
  refine tkO 19 (.int .u32 (nx : Nat)) (by simp only [gT, gZ, gS]; rfl) (puO (by (intro w hSw; (try dsimp only at hSw); go_simp))) ?_
  simp only [Act.put, pA, pZ, pS]
  refine wpAnyH_done (by kernel_rfl) ?_ _
  have hr := hHeld.1
  have hi := hHeld.2.1
  have hb := hHeld.2.2
  clear hHeld
  go_wp2_with (first | ((with_reducible refine ld_rij NI 0 op _ _ hi ?_ ?_ ?_); exact rfl; exact rfl) | (go_at_call 30; (with_reducible refine (HM.out _).mono ?_); rintro e W ⟨rfl, hbc⟩; replace hr := hr.bl hbc; replace hq := hq.bl hbc; replace ha := ha.bl hbc; replace hi := hi.bl hbc; obtain ⟨M1, hM1⟩ : ∃ n, W.heap.size = n := ⟨_, rfl⟩; have lM1 : NI + 1 ≤ M1 := (by (have := hi.lt; omega)); replace hM1 := hide hM1; replace hb := below_bl rfl hb hbc) | ((with_reducible refine bs_lst L1 10 M1 ?_ ?_ ?_); exact hM1.out; kernel_rfl; intro W hl1 hb' hzM1; obtain ⟨hr, hq, ha, hi, hb⟩ := an4 hM1 hb' hr hq ha hi hb) | (go_at_call 31; (with_reducible refine (HP1.out _ _ hl1).mono ?_); rintro e W2 ⟨rfl, rfl⟩) | ((with_reducible refine bs_lst L2 18 (M1 + 1) ?_ ?_ ?_); exact hzM1.out; kernel_rfl; intro W hl2 hb' hzM2; obtain ⟨hr, hq, ha, hi, hb⟩ := an4 hzM1 hb' hr hq ha hi hb) | (go_at_call 31; (with_reducible refine (HP2.out _ _ hl2).mono ?_); rintro e W2 ⟨rfl, rfl⟩) | ((with_reducible refine bs_lst L3 6 (M1 + 2) ?_ ?_ ?_); exact hzM2.out; kernel_rfl; intro W hl3 hb' hzM3; obtain ⟨hr, hq, ha, hi, hb⟩ := an4 hzM2 hb' hr hq ha hi hb) | (go_at_call 31; (with_reducible refine (HP3.out _ _ hl3).mono ?_); rintro e W2 ⟨rfl, rfl⟩) | ((with_reducible refine bs_lst L4 5 (M1 + 3) ?_ ?_ ?_); exact hzM3.out; kernel_rfl; intro W hl4 hb' hzM4; obtain ⟨hr, hq, ha, hi, hb⟩ := an4 hzM3 hb' hr hq ha hi hb) | (go_at_call 31; (with_reducible refine (HP4.out _ _ hl4).mono ?_); rintro e W2 ⟨rfl, rfl⟩) | ((with_reducible refine bs_lst L5 3 (M1 + 4) ?_ ?_ ?_); exact hzM4.out; kernel_rfl; intro W hl5 hb' hzM5; obtain ⟨hr, hq, ha, hi, hb⟩ := an4 hzM4 hb' hr hq ha hi hb) | (go_at_call 31; (with_reducible refine (HP5.out _ _ hl5).mono ?_); rintro e W2 ⟨rfl, rfl⟩) | ((with_reducible refine bs_int [1, 2, 4] 3 (M1 + 5) ?_ ?_ ?_); exact hzM5.out; kernel_rfl; intro W hw5 hb' hzW; obtain ⟨hr, hq, ha, hi, hb⟩ := an4 hzM5 hb' hr hq ha hi hb) | ((with_reducible refine ld_rij (M1 + 5) k (m : Nat) _ _ hw5 ?_ ?_ ?_); exact cw; exact rfl) | ((with_reducible refine ld_g w.heap.size _ hr ?_ ?_); exact rfl) | (go_at_call 29; (with_reducible refine (HX.out _).mono ?_); rintro e W ⟨rfl, hbc⟩; obtain ⟨hr, hq, ha, hi, hb⟩ := bl4 hbc hr hq ha hi hb) | ((with_reducible refine st_g (w.heap.size + 1) _ (trapH h 6 pl) hq ?_ ?_ ?_); exact rfl; exact rfl; intro W hnew ho; obtain ⟨hr, ha, hi, hb⟩ := on3 ho hr ha hi hb; replace hq := hnew) | ((with_reducible refine st_ra (w.heap.size + 2) _ (noA) ha ?_ ?_ ?_); exact rfl; exact rfl; intro W hnew ho; obtain ⟨hr, hq, hi, hb⟩ := on3 ho hr hq hi hb; replace ha := hnew))
  refine bodyPost_ret (results_two_rows Tryd.results10 _ _ (w.heap.size + 1) (w.heap.size + 2) _ _ _ _ _ _ rfl hq Tryd.underlying28 rfl size_g rfl ha Tryd.underlying37 rfl size_racc) rfl ?_
  exact ⟨rfl, hb⟩

end Go.Proofs.YtchjhpeogdkbmaaDoor
