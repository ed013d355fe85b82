/-
  SumSums, walked.
-/
import Derived.Test.YtnokcfaipbolkaaDoorSmSure
namespace Go.Proofs.YtnokcfaipbolkaaDoor
open Go.RowKit
set_option linter.unusedVariables false
set_option linter.unusedSimpArgs false

set_option maxHeartbeats 2000000 in
theorem sums_walk (n : Nat) (hn : n < 4294967296) {v : Value} {l : List Nat} (w : World) (h : Rd w.heap.size w v l) (hT : TabAt w) :
    Calls Tryd.prog 3 #[.int .u32 (n : Nat), v] w fun e w' => e = .returned (.bool true) ∧ Below w.heap.size w w' := by
  have HR := hide h
  have HT := hide hT
  have H1 := hide (fun w h hT => of_any (B := w.heap.size) (v := v) (l := l) w h hT)
  have HO := hide (of_any w h hT)
  have HQ := hide (rof_any w h)
  have HM := hide (more_any n hn w h hT)
  have HN := hide (rmore_any n hn w h)
  have HS := hide (sure_any w hT)
  obtain ⟨ad, cap, rfl, hcap, hmax⟩ := h.form
  clear h hT
  generalize hs : sumL l = s at *
  generalize hq : crcL l n = q at *
  clear hs hq
  by_cases hbig : 20000 < l.length
  · go_enter Tryd.func3, Tryd.ntmps3
    go_wp2_with (go_at_call 8; (with_reducible refine (HS.out).mono ?_); rintro e w' ⟨rfl, hb⟩)
    go_ret
    exact ⟨rfl, hb⟩
  · have hle : l.length ≤ 20000 := by omega
    clear hbig
    go_enter Tryd.func3, Tryd.ntmps3
    go_wp2_with (first | (go_at_call 8; (with_reducible refine (HS.out).mono ?_); rintro e w' ⟨rfl, hb⟩) | (go_at_call 9; (with_reducible refine (HO.out).mono ?_); rintro e w' ⟨rfl, rfl⟩) | (go_at_call 10; (with_reducible refine (HQ.out).mono ?_); rintro e w' ⟨rfl, rfl⟩) | (go_at_call 11; (with_reducible refine (HM.out).mono ?_); rintro e w' ⟨rfl, rfl⟩) | (go_at_call 12; (with_reducible refine (HN.out).mono ?_); rintro e w' ⟨rfl, rfl⟩))
    go_ret
    exact ⟨rfl, hb⟩
end Go.Proofs.YtnokcfaipbolkaaDoor
