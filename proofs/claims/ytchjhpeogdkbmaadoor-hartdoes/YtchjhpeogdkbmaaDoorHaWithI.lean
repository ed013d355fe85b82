/-
  What hart.within answers of an operation on a number.
-/
import Derived.Test.YtchjhpeogdkbmaaDoorTk
import Derived.Test.YtchjhpeogdkbmaaDoorHaWith
import Derived.Deep.RegionHeld3
namespace Go.Proofs.YtchjhpeogdkbmaaDoor
open Go.RowKit
set_option linter.unusedVariables false

/-- The operations on a number stand there. -/
def OnAt (w : World) : Prop := ∀ j, j < 9 → w.cell? ⟨3, j, none⟩ = some (.int .i64 (onN j : Nat))
theorem OnAt.below {w w' : World} (h : OnAt w) (hb : Below w.heap.size w w') : OnAt w' := fun j hj => (hb.cell (p := ⟨3, j, none⟩) (lt_of_cell (h 0 (by decide)))).trans (h j hj)
theorem OnAt.at {w : World} (h : OnAt w) (op : Nat) (h1 : 18 ≤ op) (h2 : op < 27) : w.cell? ⟨3, ((op : Int) - 18).toNat, none⟩ = some (.int .i64 (onN (op - 18) : Nat)) := by
  rw [show ((op : Int) - 18).toNat = op - 18 from by omega]; exact h _ (by omega)
theorem onN_lt (j : Nat) : onN j < 18 := by
  unfold onN onL
  rcases j with _ | _ | _ | _ | _ | _ | _ | _ | _ | j
  all_goals first | decide | simp
set_option maxHeartbeats 1000000 in
theorem within_I73 (h : H) (ok : h.Ok) (op rd s1 s2 : Nat) (im cs : Int) (hop : op < 57) (hrd : rd < 32) (h1 : s1 < 32) (h2 : s2 < 32) (ho : 18 ≤ op) (ho2 : op < 27) (hv : doN (onN (op - 18)) (h.x s1) (immN im) < 4294967296) (hk : kindN op = 73) (w : World) (hK : KindsAt w) (hO : OnAt w) :
    Calls Tryd.prog 27 #[.agg h.cells, .agg (I6.cells ⟨op, rd, s1, s2, im, cs⟩)] w fun e w' => e = .returned (.agg (nextH (writeH h rd (doN (onN (op - 18)) (h.x s1) (immN im)))).cells) ∧ Below w.heap.size w w' := by
  have HK := hide (fun w hw => kind_yes op hop w hw)
  rw [hk] at HK
  have HKK := hide hK
  have e0 := hide (immN_cast im)
  have b1 : (0 : Int) ≤ s1 := by omega
  have b2 : (s1 : Int) < 32 := by omega
  have b3 : (0 : Int) ≤ s2 := by omega
  have b4 : (s2 : Int) < 32 := by omega
  clear hK
  have t0 : ((op : Int) == 3) = false := by simp; omega
  have HO := hide hO
  clear hO
  have HC : Hid (∀ z : Int, z = ((immN im : Nat) : Int) → ∀ w, Calls Tryd.prog 58 #[.agg h.cells, .int .i64 rd, .int .i64 (onN (op - 18) : Nat), .int .u32 (h.x s1 : Nat), .int .u32 z] w fun e w' => e = .returned (.agg (nextH (writeH h rd (doN (onN (op - 18)) (h.x s1) (immN im)))).cells) ∧ Below w.heap.size w w') := hide (fun z hz w => hz ▸ compute_any h ok rd hrd (onN (op - 18)) (onN_lt _) _ rfl (h.x s1) (immN im) (ok.x _) (immN_lt im) hv w)
  go_enter Tryd.func27, Tryd.ntmps27
  go_wp2_with (first | ((with_reducible refine bx_h w.heap.size h ?_ ?_ ?_); exact rfl; exact rfl; intro W hr hb hz) | ((with_reducible refine bx_i (w.heap.size + 1) ⟨op, rd, s1, s2, im, cs⟩ ?_ ?_ ?_); exact hz.out; exact rfl; intro W hi hb' hz'; obtain ⟨hr, hb⟩ := an1 hz hb' hr hb; replace hz := hz') | ((with_reducible refine al_h (w.heap.size + 2) ?_ ?_); exact hz.out; intro W hq hb' hz'; obtain ⟨hr, hi, hb⟩ := an2 hz hb' hr hi hb; replace hz := hz'))
  have c2 : W.cell? ⟨w.heap.size + 1, 2, none⟩ = some (.int .i64 (s1 : Nat)) := hi.cell 2
  have c3 : W.cell? ⟨w.heap.size + 1, 3, none⟩ = some (.int .i64 (s2 : Nat)) := hi.cell 3
  have c4 : W.cell? ⟨w.heap.size + 1, 4, none⟩ = some (.int .i64 im) := hi.cell 4
  have x1 : W.cell? ⟨w.heap.size, 1 + s1, none⟩ = some (.int .u32 (h.x s1 : Nat)) := (hr.cell _).trans (h.cell_x s1 h1)
  have x2 : W.cell? ⟨w.heap.size, 1 + s2, none⟩ = some (.int .u32 (h.x s2 : Nat)) := (hr.cell _).trans (h.cell_x s2 h2)
  go_quiet (fail)
  rename_i nq
  clear c2 c3 c4 x1 x2
  replace hr := hr.dn nq
  replace hi := hi.dn nq
  replace hq := hq.dn nq
  replace hb := below_dn hb nq
  go_wp2_with (first | (go_at_call 23; refine (HK.out _ (HKK.out.below hb)).mono ?_; rintro e W ⟨rfl, rfl⟩) | ((with_reducible refine ld_h w.heap.size _ hr ?_ ?_); exact rfl) | ((with_reducible refine ld_i (w.heap.size + 1) _ hi ?_ ?_); exact rfl) | ((with_reducible refine ld_pc w.heap.size _ hr ?_ ?_); exact rfl) | ((with_reducible refine ld_op (w.heap.size + 1) _ hi ?_ ?_); exact rfl) | ((with_reducible refine ld_rd (w.heap.size + 1) _ hi ?_ ?_); exact rfl) | ((with_reducible refine st_h (w.heap.size + 2) _ (nextH (writeH h rd (doN (onN (op - 18)) (h.x s1) (immN im)))) hq ?_ ?_ ?_); exact rfl; exact rfl; intro W hnew ho; obtain ⟨hr, hi, hb⟩ := on2 ho hr hi hb; replace hq := hnew))
  refine wp_region_held_drew (S := (fun V => RowAt V w.heap.size h.cells 31 ∧ RowAt V (w.heap.size + 1) (I6.cells ⟨op, rd, s1, s2, im, cs⟩) 61 ∧ Below w.heap.size w V)) (by kernel_rfl) ?_ (fun hHeld => ?_)
  · exact ⟨hr.dr, hi.dr, hb.drew⟩
  replace hq := hq.dr
  refine tkO 0 (.agg h.cells) (by simp only [gT, gZ]; rfl) (y_h w.heap.size h (fun V hV => hV.1) rfl) ?_
  simp only [Act.put, pA, pZ, pS]
  refine tkO 1 (.pointer (some ⟨w.heap.size + 1, 1, none⟩)) (by simp only [gT, gZ, gS]; rfl) (puO (by (intro w hSw; (try dsimp only at hSw); go_simp))) ?_
  simp only [Act.put, pA, pZ, pS]
  refine tkO 2 (.int .i64 (rd : Nat)) (by simp only [gT, gZ, gS]; rfl) (y_int (w.heap.size + 1) 1 _ (fun V hV => (hV.2.1.cell 1).trans rfl) rfl) ?_
  simp only [Act.put, pA, pZ, pS]
  refine tkO 3 (.pointer (some ⟨w.heap.size + 1, 0, none⟩)) (by simp only [gT, gZ, gS]; rfl) (puO (by (intro w hSw; (try dsimp only at hSw); go_simp))) ?_
  simp only [Act.put, pA, pZ, pS]
  refine tkO 4 (.int .i64 (op : Nat)) (by simp only [gT, gZ, gS]; rfl) (y_int (w.heap.size + 1) 0 _ (fun V hV => (hV.2.1.cell 0).trans rfl) rfl) ?_
  simp only [Act.put, pA, pZ, pS]
  have g0 : (18 : Int) ≤ (op : Int) := by omega
  have g1 : (op : Int) < 27 := by omega
  refine tkO 5 (.int .i64 ((op : Int) - 18)) (by simp only [gT, gZ, gS]; rfl) (puO (by (intro w hSw; (try dsimp only at hSw); go_simp; exact i64_in _ (by omega) (by omega)))) ?_
  simp only [Act.put, pA, pZ, pS]
  refine tkO 6 (.pointer (some ⟨3, ((op : Int) - 18).toNat, none⟩)) (by simp only [gT, gZ, gS]; rfl) (puO (by (intro w hSw; (try dsimp only at hSw); go_simp; exact fun hbad => absurd hbad (by omega)))) ?_
  simp only [Act.put, pA, pZ, pS]
  refine tkO 7 (.int .i64 (onN (op - 18) : Nat)) (by simp only [gT, gZ, gS]; rfl) (y_int 3 ((op : Int) - 18).toNat _ (fun V hV => (OnAt.below HO.out hV.2.2).at op ho ho2) rfl) ?_
  simp only [Act.put, pA, pZ, pS]
  refine tkO 8 (.int .u32 (h.x s1 : Nat)) (by simp only [gT, gZ, gS]; rfl) (puO (by (intro w hSw; (try dsimp only at hSw); go_simp))) ?_
  simp only [Act.put, pA, pZ, pS]
  refine tkO 9 (.int .u32 (im % 4294967296)) (by simp only [gT, gZ, gS]; rfl) (puO (by (intro w hSw; (try dsimp only at hSw); go_simp))) ?_
  simp only [Act.put, pA, pZ, pS]
  refine skO 10 (by simp only [gT, gZ, gS]; rfl) (fun K hK => ?_)
  go_simp
  refine (HC.out _ ?_ _).mono ?_
  · (have := e0.out; clear e0; omega)
  rintro e V ⟨rfl, hbc⟩
  replace hr := hHeld.1.bl hbc
  replace hi := hHeld.2.1.bl hbc
  replace hb := below_bl rfl hHeld.2.2 hbc
  replace hq := hq.bl hbc
  clear hHeld
  go_simp
  refine hK.out _ _ ?_ (fun hHeld => ?_)
  · exact ⟨hr, hi, hb⟩
  clear hK K
  refine skO 11 (by simp only [gT, gZ, gS]; rfl) (fun K hK => ?_)
  rw [if_pos (by rfl)]
  (with_reducible refine s_h (w.heap.size + 2) _ (nextH (writeH h rd (doN (onN (op - 18)) (h.x s1) (immN im)))) hq ?_ ?_ ?_)
  · exact rfl
  · exact rfl
  intro V2 hnew ho
  replace hr := hr.only ho (by omega)
  replace hi := hi.only ho (by omega)
  replace hb := ho.bel _ _ (by omega) hb
  refine hK.out _ _ ?_ (fun hHeld => ?_)
  · exact ⟨hr, hi, hb⟩
  clear hK K
  refine wpAnyH_done (by kernel_rfl) ?_ _
  go_wp2
  refine bodyPost_ret (results_cell_row Tryd.results27 _ _ (w.heap.size + 2) _ _ _ _ rfl hnew Tryd.underlying31 rfl size_hart) rfl ?_
  exact ⟨rfl, hb⟩

set_option maxHeartbeats 1000000 in
theorem within_I72 (h : H) (ok : h.Ok) (op rd s1 s2 : Nat) (im cs : Int) (hop : op < 57) (hrd : rd < 32) (h1 : s1 < 32) (h2 : s2 < 32) (ho : 18 ≤ op) (ho2 : op < 27) (hv : doN (onN (op - 18)) (h.x s1) (immN im) < 4294967296) (hk : kindN op = 72) (w : World) (hK : KindsAt w) (hO : OnAt w) :
    Calls Tryd.prog 27 #[.agg h.cells, .agg (I6.cells ⟨op, rd, s1, s2, im, cs⟩)] w fun e w' => e = .returned (.agg (nextH (writeH h rd (doN (onN (op - 18)) (h.x s1) (immN im)))).cells) ∧ Below w.heap.size w w' := by
  have HK := hide (fun w hw => kind_yes op hop w hw)
  rw [hk] at HK
  have HKK := hide hK
  have e0 := hide (immN_cast im)
  have b1 : (0 : Int) ≤ s1 := by omega
  have b2 : (s1 : Int) < 32 := by omega
  have b3 : (0 : Int) ≤ s2 := by omega
  have b4 : (s2 : Int) < 32 := by omega
  clear hK
  have t0 : ((op : Int) == 3) = false := by simp; omega
  have HO := hide hO
  clear hO
  have HC : Hid (∀ z : Int, z = ((immN im : Nat) : Int) → ∀ w, Calls Tryd.prog 58 #[.agg h.cells, .int .i64 rd, .int .i64 (onN (op - 18) : Nat), .int .u32 (h.x s1 : Nat), .int .u32 z] w fun e w' => e = .returned (.agg (nextH (writeH h rd (doN (onN (op - 18)) (h.x s1) (immN im)))).cells) ∧ Below w.heap.size w w') := hide (fun z hz w => hz ▸ compute_any h ok rd hrd (onN (op - 18)) (onN_lt _) _ rfl (h.x s1) (immN im) (ok.x _) (immN_lt im) hv w)
  go_enter Tryd.func27, Tryd.ntmps27
  go_wp2_with (first | ((with_reducible refine bx_h w.heap.size h ?_ ?_ ?_); exact rfl; exact rfl; intro W hr hb hz) | ((with_reducible refine bx_i (w.heap.size + 1) ⟨op, rd, s1, s2, im, cs⟩ ?_ ?_ ?_); exact hz.out; exact rfl; intro W hi hb' hz'; obtain ⟨hr, hb⟩ := an1 hz hb' hr hb; replace hz := hz') | ((with_reducible refine al_h (w.heap.size + 2) ?_ ?_); exact hz.out; intro W hq hb' hz'; obtain ⟨hr, hi, hb⟩ := an2 hz hb' hr hi hb; replace hz := hz'))
  have c2 : W.cell? ⟨w.heap.size + 1, 2, none⟩ = some (.int .i64 (s1 : Nat)) := hi.cell 2
  have c3 : W.cell? ⟨w.heap.size + 1, 3, none⟩ = some (.int .i64 (s2 : Nat)) := hi.cell 3
  have c4 : W.cell? ⟨w.heap.size + 1, 4, none⟩ = some (.int .i64 im) := hi.cell 4
  have x1 : W.cell? ⟨w.heap.size, 1 + s1, none⟩ = some (.int .u32 (h.x s1 : Nat)) := (hr.cell _).trans (h.cell_x s1 h1)
  have x2 : W.cell? ⟨w.heap.size, 1 + s2, none⟩ = some (.int .u32 (h.x s2 : Nat)) := (hr.cell _).trans (h.cell_x s2 h2)
  go_quiet (fail)
  rename_i nq
  clear c2 c3 c4 x1 x2
  replace hr := hr.dn nq
  replace hi := hi.dn nq
  replace hq := hq.dn nq
  replace hb := below_dn hb nq
  go_wp2_with (first | (go_at_call 23; refine (HK.out _ (HKK.out.below hb)).mono ?_; rintro e W ⟨rfl, rfl⟩) | ((with_reducible refine ld_h w.heap.size _ hr ?_ ?_); exact rfl) | ((with_reducible refine ld_i (w.heap.size + 1) _ hi ?_ ?_); exact rfl) | ((with_reducible refine ld_pc w.heap.size _ hr ?_ ?_); exact rfl) | ((with_reducible refine ld_op (w.heap.size + 1) _ hi ?_ ?_); exact rfl) | ((with_reducible refine ld_rd (w.heap.size + 1) _ hi ?_ ?_); exact rfl) | ((with_reducible refine st_h (w.heap.size + 2) _ (nextH (writeH h rd (doN (onN (op - 18)) (h.x s1) (immN im)))) hq ?_ ?_ ?_); exact rfl; exact rfl; intro W hnew ho; obtain ⟨hr, hi, hb⟩ := on2 ho hr hi hb; replace hq := hnew))
  refine wp_region_held_drew (S := (fun V => RowAt V w.heap.size h.cells 31 ∧ RowAt V (w.heap.size + 1) (I6.cells ⟨op, rd, s1, s2, im, cs⟩) 61 ∧ Below w.heap.size w V)) (by kernel_rfl) ?_ (fun hHeld => ?_)
  · exact ⟨hr.dr, hi.dr, hb.drew⟩
  replace hq := hq.dr
  refine tkO 0 (.agg h.cells) (by simp only [gT, gZ]; rfl) (y_h w.heap.size h (fun V hV => hV.1) rfl) ?_
  simp only [Act.put, pA, pZ, pS]
  refine tkO 1 (.pointer (some ⟨w.heap.size + 1, 1, none⟩)) (by simp only [gT, gZ, gS]; rfl) (puO (by (intro w hSw; (try dsimp only at hSw); go_simp))) ?_
  simp only [Act.put, pA, pZ, pS]
  refine tkO 2 (.int .i64 (rd : Nat)) (by simp only [gT, gZ, gS]; rfl) (y_int (w.heap.size + 1) 1 _ (fun V hV => (hV.2.1.cell 1).trans rfl) rfl) ?_
  simp only [Act.put, pA, pZ, pS]
  refine tkO 3 (.pointer (some ⟨w.heap.size + 1, 0, none⟩)) (by simp only [gT, gZ, gS]; rfl) (puO (by (intro w hSw; (try dsimp only at hSw); go_simp))) ?_
  simp only [Act.put, pA, pZ, pS]
  refine tkO 4 (.int .i64 (op : Nat)) (by simp only [gT, gZ, gS]; rfl) (y_int (w.heap.size + 1) 0 _ (fun V hV => (hV.2.1.cell 0).trans rfl) rfl) ?_
  simp only [Act.put, pA, pZ, pS]
  have g0 : (18 : Int) ≤ (op : Int) := by omega
  have g1 : (op : Int) < 27 := by omega
  refine tkO 5 (.int .i64 ((op : Int) - 18)) (by simp only [gT, gZ, gS]; rfl) (puO (by (intro w hSw; (try dsimp only at hSw); go_simp; exact i64_in _ (by omega) (by omega)))) ?_
  simp only [Act.put, pA, pZ, pS]
  refine tkO 6 (.pointer (some ⟨3, ((op : Int) - 18).toNat, none⟩)) (by simp only [gT, gZ, gS]; rfl) (puO (by (intro w hSw; (try dsimp only at hSw); go_simp; exact fun hbad => absurd hbad (by omega)))) ?_
  simp only [Act.put, pA, pZ, pS]
  refine tkO 7 (.int .i64 (onN (op - 18) : Nat)) (by simp only [gT, gZ, gS]; rfl) (y_int 3 ((op : Int) - 18).toNat _ (fun V hV => (OnAt.below HO.out hV.2.2).at op ho ho2) rfl) ?_
  simp only [Act.put, pA, pZ, pS]
  refine tkO 8 (.int .u32 (h.x s1 : Nat)) (by simp only [gT, gZ, gS]; rfl) (puO (by (intro w hSw; (try dsimp only at hSw); go_simp))) ?_
  simp only [Act.put, pA, pZ, pS]
  refine tkO 9 (.int .u32 (im % 4294967296)) (by simp only [gT, gZ, gS]; rfl) (puO (by (intro w hSw; (try dsimp only at hSw); go_simp))) ?_
  simp only [Act.put, pA, pZ, pS]
  refine skO 10 (by simp only [gT, gZ, gS]; rfl) (fun K hK => ?_)
  go_simp
  refine (HC.out _ ?_ _).mono ?_
  · (have := e0.out; clear e0; omega)
  rintro e V ⟨rfl, hbc⟩
  replace hr := hHeld.1.bl hbc
  replace hi := hHeld.2.1.bl hbc
  replace hb := below_bl rfl hHeld.2.2 hbc
  replace hq := hq.bl hbc
  clear hHeld
  go_simp
  refine hK.out _ _ ?_ (fun hHeld => ?_)
  · exact ⟨hr, hi, hb⟩
  clear hK K
  refine skO 11 (by simp only [gT, gZ, gS]; rfl) (fun K hK => ?_)
  rw [if_pos (by rfl)]
  (with_reducible refine s_h (w.heap.size + 2) _ (nextH (writeH h rd (doN (onN (op - 18)) (h.x s1) (immN im)))) hq ?_ ?_ ?_)
  · exact rfl
  · exact rfl
  intro V2 hnew ho
  replace hr := hr.only ho (by omega)
  replace hi := hi.only ho (by omega)
  replace hb := ho.bel _ _ (by omega) hb
  refine hK.out _ _ ?_ (fun hHeld => ?_)
  · exact ⟨hr, hi, hb⟩
  clear hK K
  refine wpAnyH_done (by kernel_rfl) ?_ _
  go_wp2
  refine bodyPost_ret (results_cell_row Tryd.results27 _ _ (w.heap.size + 2) _ _ _ _ rfl hnew Tryd.underlying31 rfl size_hart) rfl ?_
  exact ⟨rfl, hb⟩

end Go.Proofs.YtchjhpeogdkbmaaDoor
