/-
  What hart.within answers.
-/
import Derived.Test.YtchjhpeogdkbmaaDoorTk
import Derived.Test.YtchjhpeogdkbmaaDoorHaSys
import Derived.Test.YtchjhpeogdkbmaaDoorHInKind
import Derived.Deep.QuietTactic
import Derived.BigQuiet
namespace Go.Proofs.YtchjhpeogdkbmaaDoor
open Go.RowKit
set_option linter.unusedVariables false

set_option maxHeartbeats 1000000 in
theorem within_U0 (h : H) (ok : h.Ok) (op rd s1 s2 : Nat) (im cs : Int) (hop : op < 57) (hrd : rd < 32) (h1 : s1 < 32) (h2 : s2 < 32) (t0 : ((op : Int) == 1) = false) (hk : kindN op = 85) (w : World) (hK : KindsAt w) :
    Calls Tryd.prog 27 #[.agg h.cells, .agg (I6.cells ⟨op, rd, s1, s2, im, cs⟩)] w fun e w' => e = .returned (.agg (nextH (writeH h rd (immN im))).cells) ∧ Below w.heap.size w w' := by
  have HK := hide (fun w hw => kind_yes op hop w hw)
  rw [hk] at HK
  have HKK := hide hK
  have e0 := hide (immN_cast im)
  have b1 : (0 : Int) ≤ s1 := by omega
  have b2 : (s1 : Int) < 32 := by omega
  have b3 : (0 : Int) ≤ s2 := by omega
  have b4 : (s2 : Int) < 32 := by omega
  clear hK
  have HU := hide (fun w => upper_0 h ok op s1 s2 im cs rd hrd t0 w)
  go_enter Tryd.func27, Tryd.ntmps27
  go_wp2_with (first | ((with_reducible refine bx_h w.heap.size h ?_ ?_ ?_); exact rfl; exact rfl; intro W hr hb hz) | ((with_reducible refine bx_i (w.heap.size + 1) ⟨op, rd, s1, s2, im, cs⟩ ?_ ?_ ?_); exact hz.out; exact rfl; intro W hi hb' hz'; obtain ⟨hr, hb⟩ := an1 hz hb' hr hb; replace hz := hz') | ((with_reducible refine al_h (w.heap.size + 2) ?_ ?_); exact hz.out; intro W hq hb' hz'; obtain ⟨hr, hi, hb⟩ := an2 hz hb' hr hi hb; replace hz := hz'))
  have c2 : W.cell? ⟨w.heap.size + 1, 2, none⟩ = some (.int .i64 (s1 : Nat)) := hi.cell 2
  have c3 : W.cell? ⟨w.heap.size + 1, 3, none⟩ = some (.int .i64 (s2 : Nat)) := hi.cell 3
  have c4 : W.cell? ⟨w.heap.size + 1, 4, none⟩ = some (.int .i64 im) := hi.cell 4
  have x1 : W.cell? ⟨w.heap.size, 1 + s1, none⟩ = some (.int .u32 (h.x s1 : Nat)) := (hr.cell _).trans (h.cell_x s1 h1)
  have x2 : W.cell? ⟨w.heap.size, 1 + s2, none⟩ = some (.int .u32 (h.x s2 : Nat)) := (hr.cell _).trans (h.cell_x s2 h2)
  go_quiet (fail)
  rename_i nq
  clear c2 c3 c4 x1 x2
  replace hr := hr.dn nq
  replace hi := hi.dn nq
  replace hq := hq.dn nq
  replace hb := below_dn hb nq
  go_wp2_with (first | (go_at_call 23; refine (HK.out _ (HKK.out.below hb)).mono ?_; rintro e W ⟨rfl, rfl⟩) | ((with_reducible refine ld_h w.heap.size _ hr ?_ ?_); exact rfl) | ((with_reducible refine ld_i (w.heap.size + 1) _ hi ?_ ?_); exact rfl) | ((with_reducible refine ld_pc w.heap.size _ hr ?_ ?_); exact rfl) | ((with_reducible refine ld_op (w.heap.size + 1) _ hi ?_ ?_); exact rfl) | ((with_reducible refine ld_rd (w.heap.size + 1) _ hi ?_ ?_); exact rfl) | (go_at_call 55; refine (HU.out _).mono ?_; rintro e W ⟨rfl, hbc⟩; obtain ⟨hr, hi, hq, hb⟩ := bl3 hbc hr hi hq hb) | ((with_reducible refine st_h (w.heap.size + 2) _ (nextH (writeH h rd (immN im))) hq ?_ ?_ ?_); exact rfl; exact rfl; intro W hnew ho; obtain ⟨hr, hi, hb⟩ := on2 ho hr hi hb; replace hq := hnew))
  refine bodyPost_ret (results_cell_row Tryd.results27 _ _ (w.heap.size + 2) _ _ _ _ rfl hq Tryd.underlying31 rfl size_hart) rfl ?_
  exact ⟨rfl, hb⟩

set_option maxHeartbeats 1000000 in
theorem within_U1 (h : H) (ok : h.Ok) (op rd s1 s2 : Nat) (im cs : Int) (hop : op < 57) (hrd : rd < 32) (h1 : s1 < 32) (h2 : s2 < 32) (t0 : ((op : Int) == 1) = true) (hk : kindN op = 85) (w : World) (hK : KindsAt w) :
    Calls Tryd.prog 27 #[.agg h.cells, .agg (I6.cells ⟨op, rd, s1, s2, im, cs⟩)] w fun e w' => e = .returned (.agg (nextH (writeH h rd ((immN im + h.pc) % 4294967296))).cells) ∧ Below w.heap.size w w' := by
  have HK := hide (fun w hw => kind_yes op hop w hw)
  rw [hk] at HK
  have HKK := hide hK
  have e0 := hide (immN_cast im)
  have b1 : (0 : Int) ≤ s1 := by omega
  have b2 : (s1 : Int) < 32 := by omega
  have b3 : (0 : Int) ≤ s2 := by omega
  have b4 : (s2 : Int) < 32 := by omega
  clear hK
  have HU := hide (fun w => upper_1 h ok op s1 s2 im cs rd hrd t0 w)
  go_enter Tryd.func27, Tryd.ntmps27
  go_wp2_with (first | ((with_reducible refine bx_h w.heap.size h ?_ ?_ ?_); exact rfl; exact rfl; intro W hr hb hz) | ((with_reducible refine bx_i (w.heap.size + 1) ⟨op, rd, s1, s2, im, cs⟩ ?_ ?_ ?_); exact hz.out; exact rfl; intro W hi hb' hz'; obtain ⟨hr, hb⟩ := an1 hz hb' hr hb; replace hz := hz') | ((with_reducible refine al_h (w.heap.size + 2) ?_ ?_); exact hz.out; intro W hq hb' hz'; obtain ⟨hr, hi, hb⟩ := an2 hz hb' hr hi hb; replace hz := hz'))
  have c2 : W.cell? ⟨w.heap.size + 1, 2, none⟩ = some (.int .i64 (s1 : Nat)) := hi.cell 2
  have c3 : W.cell? ⟨w.heap.size + 1, 3, none⟩ = some (.int .i64 (s2 : Nat)) := hi.cell 3
  have c4 : W.cell? ⟨w.heap.size + 1, 4, none⟩ = some (.int .i64 im) := hi.cell 4
  have x1 : W.cell? ⟨w.heap.size, 1 + s1, none⟩ = some (.int .u32 (h.x s1 : Nat)) := (hr.cell _).trans (h.cell_x s1 h1)
  have x2 : W.cell? ⟨w.heap.size, 1 + s2, none⟩ = some (.int .u32 (h.x s2 : Nat)) := (hr.cell _).trans (h.cell_x s2 h2)
  go_quiet (fail)
  rename_i nq
  clear c2 c3 c4 x1 x2
  replace hr := hr.dn nq
  replace hi := hi.dn nq
  replace hq := hq.dn nq
  replace hb := below_dn hb nq
  go_wp2_with (first | (go_at_call 23; refine (HK.out _ (HKK.out.below hb)).mono ?_; rintro e W ⟨rfl, rfl⟩) | ((with_reducible refine ld_h w.heap.size _ hr ?_ ?_); exact rfl) | ((with_reducible refine ld_i (w.heap.size + 1) _ hi ?_ ?_); exact rfl) | ((with_reducible refine ld_pc w.heap.size _ hr ?_ ?_); exact rfl) | ((with_reducible refine ld_op (w.heap.size + 1) _ hi ?_ ?_); exact rfl) | ((with_reducible refine ld_rd (w.heap.size + 1) _ hi ?_ ?_); exact rfl) | (go_at_call 55; refine (HU.out _).mono ?_; rintro e W ⟨rfl, hbc⟩; obtain ⟨hr, hi, hq, hb⟩ := bl3 hbc hr hi hq hb) | ((with_reducible refine st_h (w.heap.size + 2) _ (nextH (writeH h rd ((immN im + h.pc) % 4294967296))) hq ?_ ?_ ?_); exact rfl; exact rfl; intro W hnew ho; obtain ⟨hr, hi, hb⟩ := on2 ho hr hi hb; replace hq := hnew))
  refine bodyPost_ret (results_cell_row Tryd.results27 _ _ (w.heap.size + 2) _ _ _ _ rfl hq Tryd.underlying31 rfl size_hart) rfl ?_
  exact ⟨rfl, hb⟩

set_option maxHeartbeats 1000000 in
theorem within_J (h : H) (ok : h.Ok) (op rd s1 s2 : Nat) (im cs : Int) (hop : op < 57) (hrd : rd < 32) (h1 : s1 < 32) (h2 : s2 < 32)  (hk : kindN op = 74) (w : World) (hK : KindsAt w) :
    Calls Tryd.prog 27 #[.agg h.cells, .agg (I6.cells ⟨op, rd, s1, s2, im, cs⟩)] w fun e w' => e = .returned (.agg (jumpH h rd ((h.pc + immN im) % 4294967296)).cells) ∧ Below w.heap.size w w' := by
  have HK := hide (fun w hw => kind_yes op hop w hw)
  rw [hk] at HK
  have HKK := hide hK
  have e0 := hide (immN_cast im)
  have b1 : (0 : Int) ≤ s1 := by omega
  have b2 : (s1 : Int) < 32 := by omega
  have b3 : (0 : Int) ≤ s2 := by omega
  have b4 : (s2 : Int) < 32 := by omega
  clear hK
  have HJ : Hid (∀ z : Int, z = ((((h.pc + immN im) % 4294967296) : Nat) : Int) → ∀ w, Calls Tryd.prog 56 #[.agg h.cells, .int .i64 rd, .int .u32 z] w fun e w' => e = .returned (.agg (jumpH h rd ((h.pc + immN im) % 4294967296)).cells) ∧ Below w.heap.size w w') := hide (fun z hz w => hz ▸ jump_any h ok rd hrd ((h.pc + immN im) % 4294967296) w)
  go_enter Tryd.func27, Tryd.ntmps27
  go_wp2_with (first | ((with_reducible refine bx_h w.heap.size h ?_ ?_ ?_); exact rfl; exact rfl; intro W hr hb hz) | ((with_reducible refine bx_i (w.heap.size + 1) ⟨op, rd, s1, s2, im, cs⟩ ?_ ?_ ?_); exact hz.out; exact rfl; intro W hi hb' hz'; obtain ⟨hr, hb⟩ := an1 hz hb' hr hb; replace hz := hz') | ((with_reducible refine al_h (w.heap.size + 2) ?_ ?_); exact hz.out; intro W hq hb' hz'; obtain ⟨hr, hi, hb⟩ := an2 hz hb' hr hi hb; replace hz := hz'))
  have c2 : W.cell? ⟨w.heap.size + 1, 2, none⟩ = some (.int .i64 (s1 : Nat)) := hi.cell 2
  have c3 : W.cell? ⟨w.heap.size + 1, 3, none⟩ = some (.int .i64 (s2 : Nat)) := hi.cell 3
  have c4 : W.cell? ⟨w.heap.size + 1, 4, none⟩ = some (.int .i64 im) := hi.cell 4
  have x1 : W.cell? ⟨w.heap.size, 1 + s1, none⟩ = some (.int .u32 (h.x s1 : Nat)) := (hr.cell _).trans (h.cell_x s1 h1)
  have x2 : W.cell? ⟨w.heap.size, 1 + s2, none⟩ = some (.int .u32 (h.x s2 : Nat)) := (hr.cell _).trans (h.cell_x s2 h2)
  go_quiet (fail)
  rename_i nq
  clear c2 c3 c4 x1 x2
  replace hr := hr.dn nq
  replace hi := hi.dn nq
  replace hq := hq.dn nq
  replace hb := below_dn hb nq
  go_wp2_with (first | (go_at_call 23; refine (HK.out _ (HKK.out.below hb)).mono ?_; rintro e W ⟨rfl, rfl⟩) | ((with_reducible refine ld_h w.heap.size _ hr ?_ ?_); exact rfl) | ((with_reducible refine ld_i (w.heap.size + 1) _ hi ?_ ?_); exact rfl) | ((with_reducible refine ld_pc w.heap.size _ hr ?_ ?_); exact rfl) | ((with_reducible refine ld_op (w.heap.size + 1) _ hi ?_ ?_); exact rfl) | ((with_reducible refine ld_rd (w.heap.size + 1) _ hi ?_ ?_); exact rfl) | (go_at_call 56; refine (HJ.out _ ?_ _).mono ?_; (have := e0.out; clear e0; omega); rintro e W ⟨rfl, hbc⟩; obtain ⟨hr, hi, hq, hb⟩ := bl3 hbc hr hi hq hb) | ((with_reducible refine st_h (w.heap.size + 2) _ (jumpH h rd ((h.pc + immN im) % 4294967296)) hq ?_ ?_ ?_); exact rfl; exact rfl; intro W hnew ho; obtain ⟨hr, hi, hb⟩ := on2 ho hr hi hb; replace hq := hnew))
  refine bodyPost_ret (results_cell_row Tryd.results27 _ _ (w.heap.size + 2) _ _ _ _ rfl hq Tryd.underlying31 rfl size_hart) rfl ?_
  exact ⟨rfl, hb⟩

set_option maxHeartbeats 1000000 in
theorem within_Byes (h : H) (ok : h.Ok) (op rd s1 s2 : Nat) (im cs : Int) (hop : op < 57) (hrd : rd < 32) (h1 : s1 < 32) (h2 : s2 < 32) (ho : 4 ≤ op) (ho2 : op < 10) (hh : holdsN (op - 4) (h.x s1) (h.x s2) = true) (hk : kindN op = 66) (w : World) (hK : KindsAt w) :
    Calls Tryd.prog 27 #[.agg h.cells, .agg (I6.cells ⟨op, rd, s1, s2, im, cs⟩)] w fun e w' => e = .returned (.agg (goH h ((h.pc + immN im) % 4294967296)).cells) ∧ Below w.heap.size w w' := by
  have HK := hide (fun w hw => kind_yes op hop w hw)
  rw [hk] at HK
  have HKK := hide hK
  have e0 := hide (immN_cast im)
  have b1 : (0 : Int) ≤ s1 := by omega
  have b2 : (s1 : Int) < 32 := by omega
  have b3 : (0 : Int) ≤ s2 := by omega
  have b4 : (s2 : Int) < 32 := by omega
  clear hK
  have HB : Hid (∀ z : Int, z = ((immN im : Nat) : Int) → ∀ w, Calls Tryd.prog 57 #[.agg h.cells, .int .i64 ((op : Int) - 4), .int .u32 (h.x s1 : Nat), .int .u32 (h.x s2 : Nat), .int .u32 z] w fun e w' => e = .returned (.agg (goH h ((h.pc + immN im) % 4294967296)).cells) ∧ Below w.heap.size w w') := hide (fun z hz w => hz ▸ branch_yes h ok (op - 4) (by omega) ((op : Int) - 4) (by omega) (h.x s1) (h.x s2) (immN im) (ok.x _) (ok.x _) hh w)
  clear hh
  go_enter Tryd.func27, Tryd.ntmps27
  go_wp2_with (first | ((with_reducible refine bx_h w.heap.size h ?_ ?_ ?_); exact rfl; exact rfl; intro W hr hb hz) | ((with_reducible refine bx_i (w.heap.size + 1) ⟨op, rd, s1, s2, im, cs⟩ ?_ ?_ ?_); exact hz.out; exact rfl; intro W hi hb' hz'; obtain ⟨hr, hb⟩ := an1 hz hb' hr hb; replace hz := hz') | ((with_reducible refine al_h (w.heap.size + 2) ?_ ?_); exact hz.out; intro W hq hb' hz'; obtain ⟨hr, hi, hb⟩ := an2 hz hb' hr hi hb; replace hz := hz'))
  have c2 : W.cell? ⟨w.heap.size + 1, 2, none⟩ = some (.int .i64 (s1 : Nat)) := hi.cell 2
  have c3 : W.cell? ⟨w.heap.size + 1, 3, none⟩ = some (.int .i64 (s2 : Nat)) := hi.cell 3
  have c4 : W.cell? ⟨w.heap.size + 1, 4, none⟩ = some (.int .i64 im) := hi.cell 4
  have x1 : W.cell? ⟨w.heap.size, 1 + s1, none⟩ = some (.int .u32 (h.x s1 : Nat)) := (hr.cell _).trans (h.cell_x s1 h1)
  have x2 : W.cell? ⟨w.heap.size, 1 + s2, none⟩ = some (.int .u32 (h.x s2 : Nat)) := (hr.cell _).trans (h.cell_x s2 h2)
  go_quiet (fail)
  rename_i nq
  clear c2 c3 c4 x1 x2
  replace hr := hr.dn nq
  replace hi := hi.dn nq
  replace hq := hq.dn nq
  replace hb := below_dn hb nq
  go_wp2_with (first | (go_at_call 23; refine (HK.out _ (HKK.out.below hb)).mono ?_; rintro e W ⟨rfl, rfl⟩) | ((with_reducible refine ld_h w.heap.size _ hr ?_ ?_); exact rfl) | ((with_reducible refine ld_i (w.heap.size + 1) _ hi ?_ ?_); exact rfl) | ((with_reducible refine ld_pc w.heap.size _ hr ?_ ?_); exact rfl) | ((with_reducible refine ld_op (w.heap.size + 1) _ hi ?_ ?_); exact rfl) | ((with_reducible refine ld_rd (w.heap.size + 1) _ hi ?_ ?_); exact rfl) | (go_at_call 57; refine (HB.out _ ?_ _).mono ?_; (have := e0.out; clear e0; omega); rintro e W ⟨rfl, hbc⟩; obtain ⟨hr, hi, hq, hb⟩ := bl3 hbc hr hi hq hb) | ((with_reducible refine st_h (w.heap.size + 2) _ (goH h ((h.pc + immN im) % 4294967296)) hq ?_ ?_ ?_); exact rfl; exact rfl; intro W hnew ho; obtain ⟨hr, hi, hb⟩ := on2 ho hr hi hb; replace hq := hnew))
  refine bodyPost_ret (results_cell_row Tryd.results27 _ _ (w.heap.size + 2) _ _ _ _ rfl hq Tryd.underlying31 rfl size_hart) rfl ?_
  exact ⟨rfl, hb⟩

set_option maxHeartbeats 1000000 in
theorem within_Bno (h : H) (ok : h.Ok) (op rd s1 s2 : Nat) (im cs : Int) (hop : op < 57) (hrd : rd < 32) (h1 : s1 < 32) (h2 : s2 < 32) (ho : 4 ≤ op) (ho2 : op < 10) (hh : holdsN (op - 4) (h.x s1) (h.x s2) = false) (hk : kindN op = 66) (w : World) (hK : KindsAt w) :
    Calls Tryd.prog 27 #[.agg h.cells, .agg (I6.cells ⟨op, rd, s1, s2, im, cs⟩)] w fun e w' => e = .returned (.agg (nextH h).cells) ∧ Below w.heap.size w w' := by
  have HK := hide (fun w hw => kind_yes op hop w hw)
  rw [hk] at HK
  have HKK := hide hK
  have e0 := hide (immN_cast im)
  have b1 : (0 : Int) ≤ s1 := by omega
  have b2 : (s1 : Int) < 32 := by omega
  have b3 : (0 : Int) ≤ s2 := by omega
  have b4 : (s2 : Int) < 32 := by omega
  clear hK
  have HB : Hid (∀ z : Int, z = ((immN im : Nat) : Int) → ∀ w, Calls Tryd.prog 57 #[.agg h.cells, .int .i64 ((op : Int) - 4), .int .u32 (h.x s1 : Nat), .int .u32 (h.x s2 : Nat), .int .u32 z] w fun e w' => e = .returned (.agg (nextH h).cells) ∧ Below w.heap.size w w') := hide (fun z hz w => hz ▸ branch_no h ok (op - 4) (by omega) ((op : Int) - 4) (by omega) (h.x s1) (h.x s2) (immN im) (ok.x _) (ok.x _) hh w)
  clear hh
  go_enter Tryd.func27, Tryd.ntmps27
  go_wp2_with (first | ((with_reducible refine bx_h w.heap.size h ?_ ?_ ?_); exact rfl; exact rfl; intro W hr hb hz) | ((with_reducible refine bx_i (w.heap.size + 1) ⟨op, rd, s1, s2, im, cs⟩ ?_ ?_ ?_); exact hz.out; exact rfl; intro W hi hb' hz'; obtain ⟨hr, hb⟩ := an1 hz hb' hr hb; replace hz := hz') | ((with_reducible refine al_h (w.heap.size + 2) ?_ ?_); exact hz.out; intro W hq hb' hz'; obtain ⟨hr, hi, hb⟩ := an2 hz hb' hr hi hb; replace hz := hz'))
  have c2 : W.cell? ⟨w.heap.size + 1, 2, none⟩ = some (.int .i64 (s1 : Nat)) := hi.cell 2
  have c3 : W.cell? ⟨w.heap.size + 1, 3, none⟩ = some (.int .i64 (s2 : Nat)) := hi.cell 3
  have c4 : W.cell? ⟨w.heap.size + 1, 4, none⟩ = some (.int .i64 im) := hi.cell 4
  have x1 : W.cell? ⟨w.heap.size, 1 + s1, none⟩ = some (.int .u32 (h.x s1 : Nat)) := (hr.cell _).trans (h.cell_x s1 h1)
  have x2 : W.cell? ⟨w.heap.size, 1 + s2, none⟩ = some (.int .u32 (h.x s2 : Nat)) := (hr.cell _).trans (h.cell_x s2 h2)
  go_quiet (fail)
  rename_i nq
  clear c2 c3 c4 x1 x2
  replace hr := hr.dn nq
  replace hi := hi.dn nq
  replace hq := hq.dn nq
  replace hb := below_dn hb nq
  go_wp2_with (first | (go_at_call 23; refine (HK.out _ (HKK.out.below hb)).mono ?_; rintro e W ⟨rfl, rfl⟩) | ((with_reducible refine ld_h w.heap.size _ hr ?_ ?_); exact rfl) | ((with_reducible refine ld_i (w.heap.size + 1) _ hi ?_ ?_); exact rfl) | ((with_reducible refine ld_pc w.heap.size _ hr ?_ ?_); exact rfl) | ((with_reducible refine ld_op (w.heap.size + 1) _ hi ?_ ?_); exact rfl) | ((with_reducible refine ld_rd (w.heap.size + 1) _ hi ?_ ?_); exact rfl) | (go_at_call 57; refine (HB.out _ ?_ _).mono ?_; (have := e0.out; clear e0; omega); rintro e W ⟨rfl, hbc⟩; obtain ⟨hr, hi, hq, hb⟩ := bl3 hbc hr hi hq hb) | ((with_reducible refine st_h (w.heap.size + 2) _ (nextH h) hq ?_ ?_ ?_); exact rfl; exact rfl; intro W hnew ho; obtain ⟨hr, hi, hb⟩ := on2 ho hr hi hb; replace hq := hnew))
  refine bodyPost_ret (results_cell_row Tryd.results27 _ _ (w.heap.size + 2) _ _ _ _ rfl hq Tryd.underlying31 rfl size_hart) rfl ?_
  exact ⟨rfl, hb⟩

set_option maxHeartbeats 1000000 in
theorem within_jalr (h : H) (ok : h.Ok) (op rd s1 s2 : Nat) (im cs : Int) (hop : op < 57) (hrd : rd < 32) (h1 : s1 < 32) (h2 : s2 < 32) (t0 : ((op : Int) == 3) = true) (hk : kindN op = 73) (w : World) (hK : KindsAt w) :
    Calls Tryd.prog 27 #[.agg h.cells, .agg (I6.cells ⟨op, rd, s1, s2, im, cs⟩)] w fun e w' => e = .returned (.agg (jumpH h rd ((h.x s1 + immN im) % 4294967296 &&& 4294967294)).cells) ∧ Below w.heap.size w w' := by
  have HK := hide (fun w hw => kind_yes op hop w hw)
  rw [hk] at HK
  have HKK := hide hK
  have e0 := hide (immN_cast im)
  have b1 : (0 : Int) ≤ s1 := by omega
  have b2 : (s1 : Int) < 32 := by omega
  have b3 : (0 : Int) ≤ s2 := by omega
  have b4 : (s2 : Int) < 32 := by omega
  clear hK
  have HA : Hid (bits .andNot .u32 (((h.x s1 : Nat) + im) % 4294967296) 1 = ((((h.x s1 + immN im) % 4294967296 &&& 4294967294) : Nat) : Int)) := by
    have := u32_andNot_nat ((h.x s1 + immN im) % 4294967296) 1 (Nat.mod_lt _ (by decide)) (by decide)
    rw [show ((((h.x s1 + immN im) % 4294967296 : Nat)) : Int) = ((h.x s1 : Nat) + im) % 4294967296 from by have := e0.out; omega] at this
    exact this
  have HJ : Hid (∀ z : Int, z = ((((h.x s1 + immN im) % 4294967296 &&& 4294967294) : Nat) : Int) → ∀ w, Calls Tryd.prog 56 #[.agg h.cells, .int .i64 rd, .int .u32 z] w fun e w' => e = .returned (.agg (jumpH h rd ((h.x s1 + immN im) % 4294967296 &&& 4294967294)).cells) ∧ Below w.heap.size w w') := hide (fun z hz w => hz ▸ jump_any h ok rd hrd ((h.x s1 + immN im) % 4294967296 &&& 4294967294) w)
  go_enter Tryd.func27, Tryd.ntmps27
  go_wp2_with (first | ((with_reducible refine bx_h w.heap.size h ?_ ?_ ?_); exact rfl; exact rfl; intro W hr hb hz) | ((with_reducible refine bx_i (w.heap.size + 1) ⟨op, rd, s1, s2, im, cs⟩ ?_ ?_ ?_); exact hz.out; exact rfl; intro W hi hb' hz'; obtain ⟨hr, hb⟩ := an1 hz hb' hr hb; replace hz := hz') | ((with_reducible refine al_h (w.heap.size + 2) ?_ ?_); exact hz.out; intro W hq hb' hz'; obtain ⟨hr, hi, hb⟩ := an2 hz hb' hr hi hb; replace hz := hz'))
  have c2 : W.cell? ⟨w.heap.size + 1, 2, none⟩ = some (.int .i64 (s1 : Nat)) := hi.cell 2
  have c3 : W.cell? ⟨w.heap.size + 1, 3, none⟩ = some (.int .i64 (s2 : Nat)) := hi.cell 3
  have c4 : W.cell? ⟨w.heap.size + 1, 4, none⟩ = some (.int .i64 im) := hi.cell 4
  have x1 : W.cell? ⟨w.heap.size, 1 + s1, none⟩ = some (.int .u32 (h.x s1 : Nat)) := (hr.cell _).trans (h.cell_x s1 h1)
  have x2 : W.cell? ⟨w.heap.size, 1 + s2, none⟩ = some (.int .u32 (h.x s2 : Nat)) := (hr.cell _).trans (h.cell_x s2 h2)
  go_quiet (fail)
  rename_i nq
  clear c2 c3 c4 x1 x2
  replace hr := hr.dn nq
  replace hi := hi.dn nq
  replace hq := hq.dn nq
  replace hb := below_dn hb nq
  go_wp2_with (first | (go_at_call 23; refine (HK.out _ (HKK.out.below hb)).mono ?_; rintro e W ⟨rfl, rfl⟩) | ((with_reducible refine ld_h w.heap.size _ hr ?_ ?_); exact rfl) | ((with_reducible refine ld_i (w.heap.size + 1) _ hi ?_ ?_); exact rfl) | ((with_reducible refine ld_pc w.heap.size _ hr ?_ ?_); exact rfl) | ((with_reducible refine ld_op (w.heap.size + 1) _ hi ?_ ?_); exact rfl) | ((with_reducible refine ld_rd (w.heap.size + 1) _ hi ?_ ?_); exact rfl) | (go_at_call 56; refine (HJ.out _ ?_ _).mono ?_; exact HA.out; rintro e W ⟨rfl, hbc⟩; obtain ⟨hr, hi, hq, hb⟩ := bl3 hbc hr hi hq hb) | ((with_reducible refine st_h (w.heap.size + 2) _ (jumpH h rd ((h.x s1 + immN im) % 4294967296 &&& 4294967294)) hq ?_ ?_ ?_); exact rfl; exact rfl; intro W hnew ho; obtain ⟨hr, hi, hb⟩ := on2 ho hr hi hb; replace hq := hnew))
  refine bodyPost_ret (results_cell_row Tryd.results27 _ _ (w.heap.size + 2) _ _ _ _ rfl hq Tryd.underlying31 rfl size_hart) rfl ?_
  exact ⟨rfl, hb⟩

set_option maxHeartbeats 1000000 in
theorem within_R (h : H) (ok : h.Ok) (op rd s1 s2 : Nat) (im cs : Int) (hop : op < 57) (hrd : rd < 32) (h1 : s1 < 32) (h2 : s2 < 32) (ho : 27 ≤ op) (ho2 : op < 45) (hv : doN (op - 27) (h.x s1) (h.x s2) < 4294967296) (hk : kindN op = 82) (w : World) (hK : KindsAt w) :
    Calls Tryd.prog 27 #[.agg h.cells, .agg (I6.cells ⟨op, rd, s1, s2, im, cs⟩)] w fun e w' => e = .returned (.agg (nextH (writeH h rd (doN (op - 27) (h.x s1) (h.x s2)))).cells) ∧ Below w.heap.size w w' := by
  have HK := hide (fun w hw => kind_yes op hop w hw)
  rw [hk] at HK
  have HKK := hide hK
  have e0 := hide (immN_cast im)
  have b1 : (0 : Int) ≤ s1 := by omega
  have b2 : (s1 : Int) < 32 := by omega
  have b3 : (0 : Int) ≤ s2 := by omega
  have b4 : (s2 : Int) < 32 := by omega
  clear hK
  have HC : Hid (∀ z : Int, z = ((op - 27 : Nat) : Int) → ∀ w, Calls Tryd.prog 58 #[.agg h.cells, .int .i64 rd, .int .i64 z, .int .u32 (h.x s1 : Nat), .int .u32 (h.x s2 : Nat)] w fun e w' => e = .returned (.agg (nextH (writeH h rd (doN (op - 27) (h.x s1) (h.x s2)))).cells) ∧ Below w.heap.size w w') := hide (fun z hz w => compute_any h ok rd hrd (op - 27) (by omega) z hz (h.x s1) (h.x s2) (ok.x _) (ok.x _) hv w)
  go_enter Tryd.func27, Tryd.ntmps27
  go_wp2_with (first | ((with_reducible refine bx_h w.heap.size h ?_ ?_ ?_); exact rfl; exact rfl; intro W hr hb hz) | ((with_reducible refine bx_i (w.heap.size + 1) ⟨op, rd, s1, s2, im, cs⟩ ?_ ?_ ?_); exact hz.out; exact rfl; intro W hi hb' hz'; obtain ⟨hr, hb⟩ := an1 hz hb' hr hb; replace hz := hz') | ((with_reducible refine al_h (w.heap.size + 2) ?_ ?_); exact hz.out; intro W hq hb' hz'; obtain ⟨hr, hi, hb⟩ := an2 hz hb' hr hi hb; replace hz := hz'))
  have c2 : W.cell? ⟨w.heap.size + 1, 2, none⟩ = some (.int .i64 (s1 : Nat)) := hi.cell 2
  have c3 : W.cell? ⟨w.heap.size + 1, 3, none⟩ = some (.int .i64 (s2 : Nat)) := hi.cell 3
  have c4 : W.cell? ⟨w.heap.size + 1, 4, none⟩ = some (.int .i64 im) := hi.cell 4
  have x1 : W.cell? ⟨w.heap.size, 1 + s1, none⟩ = some (.int .u32 (h.x s1 : Nat)) := (hr.cell _).trans (h.cell_x s1 h1)
  have x2 : W.cell? ⟨w.heap.size, 1 + s2, none⟩ = some (.int .u32 (h.x s2 : Nat)) := (hr.cell _).trans (h.cell_x s2 h2)
  go_quiet (fail)
  rename_i nq
  clear c2 c3 c4 x1 x2
  replace hr := hr.dn nq
  replace hi := hi.dn nq
  replace hq := hq.dn nq
  replace hb := below_dn hb nq
  go_wp2_with (first | (go_at_call 23; refine (HK.out _ (HKK.out.below hb)).mono ?_; rintro e W ⟨rfl, rfl⟩) | ((with_reducible refine ld_h w.heap.size _ hr ?_ ?_); exact rfl) | ((with_reducible refine ld_i (w.heap.size + 1) _ hi ?_ ?_); exact rfl) | ((with_reducible refine ld_pc w.heap.size _ hr ?_ ?_); exact rfl) | ((with_reducible refine ld_op (w.heap.size + 1) _ hi ?_ ?_); exact rfl) | ((with_reducible refine ld_rd (w.heap.size + 1) _ hi ?_ ?_); exact rfl) | (go_at_call 58; refine (HC.out _ ?_ _).mono ?_; omega; rintro e W ⟨rfl, hbc⟩; obtain ⟨hr, hi, hq, hb⟩ := bl3 hbc hr hi hq hb) | ((with_reducible refine st_h (w.heap.size + 2) _ (nextH (writeH h rd (doN (op - 27) (h.x s1) (h.x s2)))) hq ?_ ?_ ?_); exact rfl; exact rfl; intro W hnew ho; obtain ⟨hr, hi, hb⟩ := on2 ho hr hi hb; replace hq := hnew))
  refine bodyPost_ret (results_cell_row Tryd.results27 _ _ (w.heap.size + 2) _ _ _ _ rfl hq Tryd.underlying31 rfl size_hart) rfl ?_
  exact ⟨rfl, hb⟩

set_option maxHeartbeats 1000000 in
theorem within_47 (h : H) (ok : h.Ok) (rd s1 s2 : Nat) (im cs : Int) (hrd : rd < 32) (h1 : s1 < 32) (h2 : s2 < 32)  (w : World) (hK : KindsAt w) :
    Calls Tryd.prog 27 #[.agg h.cells, .agg (I6.cells ⟨47, rd, s1, s2, im, cs⟩)] w fun e w' => e = .returned (.agg (trapH h 11 0).cells) ∧ Below w.heap.size w w' := by
  have HK := hide (fun w hw => kind_yes 47 (by decide) w hw)
  rw [show kindN 47 = 78 from rfl, show (((47 : Nat) : Int)) = 47 from rfl] at HK
  have HKK := hide hK
  have e0 := hide (immN_cast im)
  have b1 : (0 : Int) ≤ s1 := by omega
  have b2 : (s1 : Int) < 32 := by omega
  have b3 : (0 : Int) ≤ s2 := by omega
  have b4 : (s2 : Int) < 32 := by omega
  clear hK
  have HS := hide (fun w => system_47 h ok w)
  go_enter Tryd.func27, Tryd.ntmps27
  go_wp2_with (first | ((with_reducible refine bx_h w.heap.size h ?_ ?_ ?_); exact rfl; exact rfl; intro W hr hb hz) | ((with_reducible refine bx_i (w.heap.size + 1) ⟨47, rd, s1, s2, im, cs⟩ ?_ ?_ ?_); exact hz.out; exact rfl; intro W hi hb' hz'; obtain ⟨hr, hb⟩ := an1 hz hb' hr hb; replace hz := hz') | ((with_reducible refine al_h (w.heap.size + 2) ?_ ?_); exact hz.out; intro W hq hb' hz'; obtain ⟨hr, hi, hb⟩ := an2 hz hb' hr hi hb; replace hz := hz'))
  have c2 : W.cell? ⟨w.heap.size + 1, 2, none⟩ = some (.int .i64 (s1 : Nat)) := hi.cell 2
  have c3 : W.cell? ⟨w.heap.size + 1, 3, none⟩ = some (.int .i64 (s2 : Nat)) := hi.cell 3
  have c4 : W.cell? ⟨w.heap.size + 1, 4, none⟩ = some (.int .i64 im) := hi.cell 4
  have x1 : W.cell? ⟨w.heap.size, 1 + s1, none⟩ = some (.int .u32 (h.x s1 : Nat)) := (hr.cell _).trans (h.cell_x s1 h1)
  have x2 : W.cell? ⟨w.heap.size, 1 + s2, none⟩ = some (.int .u32 (h.x s2 : Nat)) := (hr.cell _).trans (h.cell_x s2 h2)
  go_quiet (fail)
  rename_i nq
  clear c2 c3 c4 x1 x2
  replace hr := hr.dn nq
  replace hi := hi.dn nq
  replace hq := hq.dn nq
  replace hb := below_dn hb nq
  go_wp2_with (first | (go_at_call 23; refine (HK.out _ (HKK.out.below hb)).mono ?_; rintro e W ⟨rfl, rfl⟩) | ((with_reducible refine ld_h w.heap.size _ hr ?_ ?_); exact rfl) | ((with_reducible refine ld_i (w.heap.size + 1) _ hi ?_ ?_); exact rfl) | ((with_reducible refine ld_pc w.heap.size _ hr ?_ ?_); exact rfl) | ((with_reducible refine ld_op (w.heap.size + 1) _ hi ?_ ?_); exact rfl) | ((with_reducible refine ld_rd (w.heap.size + 1) _ hi ?_ ?_); exact rfl) | (go_at_call 59; refine (HS.out _).mono ?_; rintro e W ⟨rfl, hbc⟩; obtain ⟨hr, hi, hq, hb⟩ := bl3 hbc hr hi hq hb) | ((with_reducible refine st_h (w.heap.size + 2) _ (trapH h 11 0) hq ?_ ?_ ?_); exact rfl; exact rfl; intro W hnew ho; obtain ⟨hr, hi, hb⟩ := on2 ho hr hi hb; replace hq := hnew))
  refine bodyPost_ret (results_cell_row Tryd.results27 _ _ (w.heap.size + 2) _ _ _ _ rfl hq Tryd.underlying31 rfl size_hart) rfl ?_
  exact ⟨rfl, hb⟩

set_option maxHeartbeats 1000000 in
theorem within_48 (h : H) (ok : h.Ok) (rd s1 s2 : Nat) (im cs : Int) (hrd : rd < 32) (h1 : s1 < 32) (h2 : s2 < 32)  (w : World) (hK : KindsAt w) :
    Calls Tryd.prog 27 #[.agg h.cells, .agg (I6.cells ⟨48, rd, s1, s2, im, cs⟩)] w fun e w' => e = .returned (.agg (trapH h 3 h.pc).cells) ∧ Below w.heap.size w w' := by
  have HK := hide (fun w hw => kind_yes 48 (by decide) w hw)
  rw [show kindN 48 = 78 from rfl, show (((48 : Nat) : Int)) = 48 from rfl] at HK
  have HKK := hide hK
  have e0 := hide (immN_cast im)
  have b1 : (0 : Int) ≤ s1 := by omega
  have b2 : (s1 : Int) < 32 := by omega
  have b3 : (0 : Int) ≤ s2 := by omega
  have b4 : (s2 : Int) < 32 := by omega
  clear hK
  have HS := hide (fun w => system_48 h ok w)
  go_enter Tryd.func27, Tryd.ntmps27
  go_wp2_with (first | ((with_reducible refine bx_h w.heap.size h ?_ ?_ ?_); exact rfl; exact rfl; intro W hr hb hz) | ((with_reducible refine bx_i (w.heap.size + 1) ⟨48, rd, s1, s2, im, cs⟩ ?_ ?_ ?_); exact hz.out; exact rfl; intro W hi hb' hz'; obtain ⟨hr, hb⟩ := an1 hz hb' hr hb; replace hz := hz') | ((with_reducible refine al_h (w.heap.size + 2) ?_ ?_); exact hz.out; intro W hq hb' hz'; obtain ⟨hr, hi, hb⟩ := an2 hz hb' hr hi hb; replace hz := hz'))
  have c2 : W.cell? ⟨w.heap.size + 1, 2, none⟩ = some (.int .i64 (s1 : Nat)) := hi.cell 2
  have c3 : W.cell? ⟨w.heap.size + 1, 3, none⟩ = some (.int .i64 (s2 : Nat)) := hi.cell 3
  have c4 : W.cell? ⟨w.heap.size + 1, 4, none⟩ = some (.int .i64 im) := hi.cell 4
  have x1 : W.cell? ⟨w.heap.size, 1 + s1, none⟩ = some (.int .u32 (h.x s1 : Nat)) := (hr.cell _).trans (h.cell_x s1 h1)
  have x2 : W.cell? ⟨w.heap.size, 1 + s2, none⟩ = some (.int .u32 (h.x s2 : Nat)) := (hr.cell _).trans (h.cell_x s2 h2)
  go_quiet (fail)
  rename_i nq
  clear c2 c3 c4 x1 x2
  replace hr := hr.dn nq
  replace hi := hi.dn nq
  replace hq := hq.dn nq
  replace hb := below_dn hb nq
  go_wp2_with (first | (go_at_call 23; refine (HK.out _ (HKK.out.below hb)).mono ?_; rintro e W ⟨rfl, rfl⟩) | ((with_reducible refine ld_h w.heap.size _ hr ?_ ?_); exact rfl) | ((with_reducible refine ld_i (w.heap.size + 1) _ hi ?_ ?_); exact rfl) | ((with_reducible refine ld_pc w.heap.size _ hr ?_ ?_); exact rfl) | ((with_reducible refine ld_op (w.heap.size + 1) _ hi ?_ ?_); exact rfl) | ((with_reducible refine ld_rd (w.heap.size + 1) _ hi ?_ ?_); exact rfl) | (go_at_call 59; refine (HS.out _).mono ?_; rintro e W ⟨rfl, hbc⟩; obtain ⟨hr, hi, hq, hb⟩ := bl3 hbc hr hi hq hb) | ((with_reducible refine st_h (w.heap.size + 2) _ (trapH h 3 h.pc) hq ?_ ?_ ?_); exact rfl; exact rfl; intro W hnew ho; obtain ⟨hr, hi, hb⟩ := on2 ho hr hi hb; replace hq := hnew))
  refine bodyPost_ret (results_cell_row Tryd.results27 _ _ (w.heap.size + 2) _ _ _ _ rfl hq Tryd.underlying31 rfl size_hart) rfl ?_
  exact ⟨rfl, hb⟩

set_option maxHeartbeats 1000000 in
theorem within_49 (h : H) (ok : h.Ok) (rd s1 s2 : Nat) (im cs : Int) (hrd : rd < 32) (h1 : s1 < 32) (h2 : s2 < 32)  (w : World) (hK : KindsAt w) :
    Calls Tryd.prog 27 #[.agg h.cells, .agg (I6.cells ⟨49, rd, s1, s2, im, cs⟩)] w fun e w' => e = .returned (.agg (goH (withC h (retN h.c)) h.c.ep).cells) ∧ Below w.heap.size w w' := by
  have HK := hide (fun w hw => kind_yes 49 (by decide) w hw)
  rw [show kindN 49 = 78 from rfl, show (((49 : Nat) : Int)) = 49 from rfl] at HK
  have HKK := hide hK
  have e0 := hide (immN_cast im)
  have b1 : (0 : Int) ≤ s1 := by omega
  have b2 : (s1 : Int) < 32 := by omega
  have b3 : (0 : Int) ≤ s2 := by omega
  have b4 : (s2 : Int) < 32 := by omega
  clear hK
  have HS := hide (fun w => system_49 h ok w)
  go_enter Tryd.func27, Tryd.ntmps27
  go_wp2_with (first | ((with_reducible refine bx_h w.heap.size h ?_ ?_ ?_); exact rfl; exact rfl; intro W hr hb hz) | ((with_reducible refine bx_i (w.heap.size + 1) ⟨49, rd, s1, s2, im, cs⟩ ?_ ?_ ?_); exact hz.out; exact rfl; intro W hi hb' hz'; obtain ⟨hr, hb⟩ := an1 hz hb' hr hb; replace hz := hz') | ((with_reducible refine al_h (w.heap.size + 2) ?_ ?_); exact hz.out; intro W hq hb' hz'; obtain ⟨hr, hi, hb⟩ := an2 hz hb' hr hi hb; replace hz := hz'))
  have c2 : W.cell? ⟨w.heap.size + 1, 2, none⟩ = some (.int .i64 (s1 : Nat)) := hi.cell 2
  have c3 : W.cell? ⟨w.heap.size + 1, 3, none⟩ = some (.int .i64 (s2 : Nat)) := hi.cell 3
  have c4 : W.cell? ⟨w.heap.size + 1, 4, none⟩ = some (.int .i64 im) := hi.cell 4
  have x1 : W.cell? ⟨w.heap.size, 1 + s1, none⟩ = some (.int .u32 (h.x s1 : Nat)) := (hr.cell _).trans (h.cell_x s1 h1)
  have x2 : W.cell? ⟨w.heap.size, 1 + s2, none⟩ = some (.int .u32 (h.x s2 : Nat)) := (hr.cell _).trans (h.cell_x s2 h2)
  go_quiet (fail)
  rename_i nq
  clear c2 c3 c4 x1 x2
  replace hr := hr.dn nq
  replace hi := hi.dn nq
  replace hq := hq.dn nq
  replace hb := below_dn hb nq
  go_wp2_with (first | (go_at_call 23; refine (HK.out _ (HKK.out.below hb)).mono ?_; rintro e W ⟨rfl, rfl⟩) | ((with_reducible refine ld_h w.heap.size _ hr ?_ ?_); exact rfl) | ((with_reducible refine ld_i (w.heap.size + 1) _ hi ?_ ?_); exact rfl) | ((with_reducible refine ld_pc w.heap.size _ hr ?_ ?_); exact rfl) | ((with_reducible refine ld_op (w.heap.size + 1) _ hi ?_ ?_); exact rfl) | ((with_reducible refine ld_rd (w.heap.size + 1) _ hi ?_ ?_); exact rfl) | (go_at_call 59; refine (HS.out _).mono ?_; rintro e W ⟨rfl, hbc⟩; obtain ⟨hr, hi, hq, hb⟩ := bl3 hbc hr hi hq hb) | ((with_reducible refine st_h (w.heap.size + 2) _ (goH (withC h (retN h.c)) h.c.ep) hq ?_ ?_ ?_); exact rfl; exact rfl; intro W hnew ho; obtain ⟨hr, hi, hb⟩ := on2 ho hr hi hb; replace hq := hnew))
  refine bodyPost_ret (results_cell_row Tryd.results27 _ _ (w.heap.size + 2) _ _ _ _ rfl hq Tryd.underlying31 rfl size_hart) rfl ?_
  exact ⟨rfl, hb⟩

set_option maxHeartbeats 1000000 in
theorem within_50 (h : H) (ok : h.Ok) (rd s1 s2 : Nat) (im cs : Int) (hrd : rd < 32) (h1 : s1 < 32) (h2 : s2 < 32)  (w : World) (hK : KindsAt w) :
    Calls Tryd.prog 27 #[.agg h.cells, .agg (I6.cells ⟨50, rd, s1, s2, im, cs⟩)] w fun e w' => e = .returned (.agg (nextH ⟨h.pc, h.x, true, h.c⟩).cells) ∧ Below w.heap.size w w' := by
  have HK := hide (fun w hw => kind_yes 50 (by decide) w hw)
  rw [show kindN 50 = 78 from rfl, show (((50 : Nat) : Int)) = 50 from rfl] at HK
  have HKK := hide hK
  have e0 := hide (immN_cast im)
  have b1 : (0 : Int) ≤ s1 := by omega
  have b2 : (s1 : Int) < 32 := by omega
  have b3 : (0 : Int) ≤ s2 := by omega
  have b4 : (s2 : Int) < 32 := by omega
  clear hK
  have HS := hide (fun w => system_50 h ok w)
  go_enter Tryd.func27, Tryd.ntmps27
  go_wp2_with (first | ((with_reducible refine bx_h w.heap.size h ?_ ?_ ?_); exact rfl; exact rfl; intro W hr hb hz) | ((with_reducible refine bx_i (w.heap.size + 1) ⟨50, rd, s1, s2, im, cs⟩ ?_ ?_ ?_); exact hz.out; exact rfl; intro W hi hb' hz'; obtain ⟨hr, hb⟩ := an1 hz hb' hr hb; replace hz := hz') | ((with_reducible refine al_h (w.heap.size + 2) ?_ ?_); exact hz.out; intro W hq hb' hz'; obtain ⟨hr, hi, hb⟩ := an2 hz hb' hr hi hb; replace hz := hz'))
  have c2 : W.cell? ⟨w.heap.size + 1, 2, none⟩ = some (.int .i64 (s1 : Nat)) := hi.cell 2
  have c3 : W.cell? ⟨w.heap.size + 1, 3, none⟩ = some (.int .i64 (s2 : Nat)) := hi.cell 3
  have c4 : W.cell? ⟨w.heap.size + 1, 4, none⟩ = some (.int .i64 im) := hi.cell 4
  have x1 : W.cell? ⟨w.heap.size, 1 + s1, none⟩ = some (.int .u32 (h.x s1 : Nat)) := (hr.cell _).trans (h.cell_x s1 h1)
  have x2 : W.cell? ⟨w.heap.size, 1 + s2, none⟩ = some (.int .u32 (h.x s2 : Nat)) := (hr.cell _).trans (h.cell_x s2 h2)
  go_quiet (fail)
  rename_i nq
  clear c2 c3 c4 x1 x2
  replace hr := hr.dn nq
  replace hi := hi.dn nq
  replace hq := hq.dn nq
  replace hb := below_dn hb nq
  go_wp2_with (first | (go_at_call 23; refine (HK.out _ (HKK.out.below hb)).mono ?_; rintro e W ⟨rfl, rfl⟩) | ((with_reducible refine ld_h w.heap.size _ hr ?_ ?_); exact rfl) | ((with_reducible refine ld_i (w.heap.size + 1) _ hi ?_ ?_); exact rfl) | ((with_reducible refine ld_pc w.heap.size _ hr ?_ ?_); exact rfl) | ((with_reducible refine ld_op (w.heap.size + 1) _ hi ?_ ?_); exact rfl) | ((with_reducible refine ld_rd (w.heap.size + 1) _ hi ?_ ?_); exact rfl) | (go_at_call 59; refine (HS.out _).mono ?_; rintro e W ⟨rfl, hbc⟩; obtain ⟨hr, hi, hq, hb⟩ := bl3 hbc hr hi hq hb) | ((with_reducible refine st_h (w.heap.size + 2) _ (nextH ⟨h.pc, h.x, true, h.c⟩) hq ?_ ?_ ?_); exact rfl; exact rfl; intro W hnew ho; obtain ⟨hr, hi, hb⟩ := on2 ho hr hi hb; replace hq := hnew))
  refine bodyPost_ret (results_cell_row Tryd.results27 _ _ (w.heap.size + 2) _ _ _ _ rfl hq Tryd.underlying31 rfl size_hart) rfl ?_
  exact ⟨rfl, hb⟩

set_option maxHeartbeats 1000000 in
theorem within_F (h : H) (ok : h.Ok) (op rd s1 s2 : Nat) (im cs : Int) (hop : op < 57) (hrd : rd < 32) (h1 : s1 < 32) (h2 : s2 < 32)  (hk : kindN op = 70) (w : World) (hK : KindsAt w) :
    Calls Tryd.prog 27 #[.agg h.cells, .agg (I6.cells ⟨op, rd, s1, s2, im, cs⟩)] w fun e w' => e = .returned (.agg (nextH h).cells) ∧ Below w.heap.size w w' := by
  have HK := hide (fun w hw => kind_yes op hop w hw)
  rw [hk] at HK
  have HKK := hide hK
  have e0 := hide (immN_cast im)
  have b1 : (0 : Int) ≤ s1 := by omega
  have b2 : (s1 : Int) < 32 := by omega
  have b3 : (0 : Int) ≤ s2 := by omega
  have b4 : (s2 : Int) < 32 := by omega
  clear hK
  have HN := hide (fun w => next_any h ok w)
  go_enter Tryd.func27, Tryd.ntmps27
  go_wp2_with (first | ((with_reducible refine bx_h w.heap.size h ?_ ?_ ?_); exact rfl; exact rfl; intro W hr hb hz) | ((with_reducible refine bx_i (w.heap.size + 1) ⟨op, rd, s1, s2, im, cs⟩ ?_ ?_ ?_); exact hz.out; exact rfl; intro W hi hb' hz'; obtain ⟨hr, hb⟩ := an1 hz hb' hr hb; replace hz := hz') | ((with_reducible refine al_h (w.heap.size + 2) ?_ ?_); exact hz.out; intro W hq hb' hz'; obtain ⟨hr, hi, hb⟩ := an2 hz hb' hr hi hb; replace hz := hz'))
  have c2 : W.cell? ⟨w.heap.size + 1, 2, none⟩ = some (.int .i64 (s1 : Nat)) := hi.cell 2
  have c3 : W.cell? ⟨w.heap.size + 1, 3, none⟩ = some (.int .i64 (s2 : Nat)) := hi.cell 3
  have c4 : W.cell? ⟨w.heap.size + 1, 4, none⟩ = some (.int .i64 im) := hi.cell 4
  have x1 : W.cell? ⟨w.heap.size, 1 + s1, none⟩ = some (.int .u32 (h.x s1 : Nat)) := (hr.cell _).trans (h.cell_x s1 h1)
  have x2 : W.cell? ⟨w.heap.size, 1 + s2, none⟩ = some (.int .u32 (h.x s2 : Nat)) := (hr.cell _).trans (h.cell_x s2 h2)
  go_quiet (fail)
  rename_i nq
  clear c2 c3 c4 x1 x2
  replace hr := hr.dn nq
  replace hi := hi.dn nq
  replace hq := hq.dn nq
  replace hb := below_dn hb nq
  go_wp2_with (first | (go_at_call 23; refine (HK.out _ (HKK.out.below hb)).mono ?_; rintro e W ⟨rfl, rfl⟩) | ((with_reducible refine ld_h w.heap.size _ hr ?_ ?_); exact rfl) | ((with_reducible refine ld_i (w.heap.size + 1) _ hi ?_ ?_); exact rfl) | ((with_reducible refine ld_pc w.heap.size _ hr ?_ ?_); exact rfl) | ((with_reducible refine ld_op (w.heap.size + 1) _ hi ?_ ?_); exact rfl) | ((with_reducible refine ld_rd (w.heap.size + 1) _ hi ?_ ?_); exact rfl) | (go_at_call 45; refine (HN.out _).mono ?_; rintro e W ⟨rfl, hbc⟩; obtain ⟨hr, hi, hq, hb⟩ := bl3 hbc hr hi hq hb) | ((with_reducible refine st_h (w.heap.size + 2) _ (nextH h) hq ?_ ?_ ?_); exact rfl; exact rfl; intro W hnew ho; obtain ⟨hr, hi, hb⟩ := on2 ho hr hi hb; replace hq := hnew))
  refine bodyPost_ret (results_cell_row Tryd.results27 _ _ (w.heap.size + 2) _ _ _ _ rfl hq Tryd.underlying31 rfl size_hart) rfl ?_
  exact ⟨rfl, hb⟩

end Go.Proofs.YtchjhpeogdkbmaaDoor
