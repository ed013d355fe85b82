/-
  The document's Find.
-/
import Derived.Test.YtkahkkcbigifiaaDoorTvSec
import Derived.Test.YtkahkkcbigifiaaDoorTvRef3
namespace Go.Proofs.YtkahkkcbigifiaaDoor
open Go.RowKit
set_option linter.unusedVariables false
set_option linter.unusedSimpArgs false

set_option maxRecDepth 100000 in
set_option maxHeartbeats 1000000 in
theorem rfind_any {B : Nat} {v : Value} {L : List Sct} (w : World) (h : Secs B w v L) (tag : Nat) (ht : tag < 4294967296) :
    Calls Tryd.prog 15 #[v, .int .u32 (tag : Nat)] w fun e w' => ∃ u, e = .returned (.tuple #[u, .int .i64 (findE tag L : Nat)]) ∧ Rd B w' u (findB tag L) ∧ w' = w := by
  by_cases h0 : 0 < L.length
  · obtain ⟨b, off, cap, rfl, hcap, hmax, _, HC⟩ := h.all h0
    have HTG := hide h.tags
    obtain ⟨n, hn⟩ : ∃ n, L.length = n := ⟨_, rfl⟩
    have HN := hide hn
    clear h
    rw [hn] at hcap h0 ⊢
    clear hn
    go_enter Tryd.func15, Tryd.ntmps15
    go_wp2
    go_loop [6] (fun i => ∃ k : Nat, k ≤ n ∧ i = .int .i64 k ∧ findF tag (L.drop k) = findF tag L) (fun i => n - (intOf i).toNat)
    case atStart => exact ⟨0, Nat.zero_le _, rfl, rfl⟩
    case round =>
      obtain ⟨k, hk, rfl, hf⟩ := hrel
      by_cases hlt : k < n
      · have hkl : k < L.length := by rw [HN.out]; exact hlt
        obtain ⟨c1, u, c2, c3⟩ := HC.out k hkl
        have htg := HTG.out L[k] (List.getElem_mem hkl)
        rw [find_drop tag L k hkl] at hf
        have HF := hide hf
        have HR := hide c3
        clear hf c3
        by_cases he : L[k].tag = tag
        · rw [if_pos he] at HF
          have HE := hide (show findE tag L = 0 by unfold findE; rw [← HF.out])
          have HB := hide (show findB tag L = L[k].b by unfold findB; rw [← HF.out]; rfl)
          rw [he] at c1
          clear HF he htg
          go_wp2
          go_ret2
          exact ⟨_, by rw [HE.out]; rfl, by rw [HB.out]; exact HR.out, rfl⟩
        · rw [if_neg he] at HF
          generalize L[k].tag = x at *
          go_wp2
          go_round
          case rel => exact ⟨k + 1, by omega, by go_num, HF.out⟩
          case measure => simp [intOf]; omega
      · obtain rfl : k = n := by omega
        rw [List.drop_eq_nil_of_le (by rw [HN.out]; exact Nat.le_refl _)] at hf
        have HE := hide (show findE tag L = 8 by unfold findE; rw [← hf]; rfl)
        have HB := hide (show findB tag L = [] by unfold findB; rw [← hf]; rfl)
        clear hf
        go_wp2
        go_ret2
        exact ⟨_, by rw [HE.out]; rfl, by rw [HB.out]; exact Rd.nil _ _, rfl⟩
  · obtain ⟨rfl, ad, cap, rfl, hmax⟩ := h.none h0
    go_enter Tryd.func15, Tryd.ntmps15
    go_wp2
    go_loop [6] (fun i => i = .int .i64 0) (fun i => 0)
    case atStart => rfl
    case round =>
      subst hrel
      go_wp2
      go_ret2
      exact ⟨_, rfl, Rd.nil _ _, rfl⟩

end Go.Proofs.YtkahkkcbigifiaaDoor
