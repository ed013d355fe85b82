/-
  What hart.trap answers.
-/
import Derived.Test.YtchjhpeogdkbmaaDoorHaRow
namespace Go.Proofs.YtchjhpeogdkbmaaDoor
open Go.RowKit
set_option linter.unusedVariables false

theorem cs_trap_bl (s : S8) (hs : s.Ok) (cause value pc : Nat) (hc : cause < 4294967296) (hp : pc < 4294967296) (w : World) :
    Calls Tryd.prog 50 #[.agg s.cells, .int .u32 cause, .int .u32 value, .int .u32 pc] w fun e w' => e = .returned (.tuple #[.agg (trapN s cause value pc).cells, .int .u32 (trapTo s.ve cause : Nat)]) ∧ Below w.heap.size w w' :=
  (cs_trap_any s hs cause value pc hc hp w).mono fun e w' ⟨he, o, o', hw⟩ => ⟨he, hw ▸ below_two w o o'⟩

set_option maxHeartbeats 1000000 in
theorem trap_any (h : H) (ok : h.Ok) (ca va : Nat) (hc : ca < 4294967296) (w : World) :
    Calls Tryd.prog 22 #[.agg h.cells, .int .u32 ca, .int .u32 va] w fun e w' => e = .returned (.agg (trapH h ca va).cells) ∧ Below w.heap.size w w' := by
  have HT := hide (fun w => cs_trap_bl h.c ok.c ca va h.pc hc ok.pc w)
  go_enter Tryd.func22, Tryd.ntmps22
  go_wp2_with (first | ((with_reducible refine bx_h w.heap.size h ?_ ?_ ?_); exact rfl; exact rfl; intro W1 hr1 hb1 hz1) | ((with_reducible refine al_h (w.heap.size + 1) ?_ ?_); exact hz1.out; intro W2 hq2 hb2 hz2; have hr2 := hr1.bl (hz1.out ▸ hb2); replace hb2 := hb1.trans (hb2.mono (Nat.le_succ _))) | ((with_reducible refine ld_c w.heap.size h hr2 ?_ ?_); exact rfl) | ((with_reducible refine ld_pc w.heap.size h hr2 ?_ ?_); exact rfl) | (go_at_call 50; refine (HT.out _).mono ?_; rintro e W3 ⟨rfl, hb3⟩; have hr3 := hr2.bl hb3; have hq3 := hq2.bl hb3; replace hb3 := below_bl rfl hb2 hb3) | ((with_reducible refine st_c w.heap.size h (trapN h.c ca va h.pc) hr3 ?_ ?_ ?_); exact rfl; exact rfl; intro W4 hr4 ho4; have hq4 := hq3.only ho4 (by omega); have hb4 := ho4.bel _ _ (Nat.le_refl _) hb3) | ((with_reducible refine st_pc w.heap.size _ (trapTo h.c.ve ca) hr4 ?_ ?_ ?_); exact rfl; exact rfl; intro W5 hr5 ho5; have hq5 := hq4.only ho5 (by omega); have hb5 := ho5.bel _ _ (Nat.le_refl _) hb4) | ((with_reducible refine ld_h w.heap.size _ hr5 ?_ ?_); exact rfl) | ((with_reducible refine st_h (w.heap.size + 1) _ (trapH h ca va) hq5 ?_ ?_ ?_); exact rfl; exact rfl; intro W6 hr6 ho6; have hb6 := ho6.bel _ _ (Nat.le_succ _) hb5))
  refine bodyPost_ret (results_cell_row Tryd.results22 _ _ (w.heap.size + 1) _ _ _ _ rfl hr6 Tryd.underlying31 rfl size_hart) rfl ?_
  exact ⟨rfl, hb6⟩
end Go.Proofs.YtchjhpeogdkbmaaDoor
