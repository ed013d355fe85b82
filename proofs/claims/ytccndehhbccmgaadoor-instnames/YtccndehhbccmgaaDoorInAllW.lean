/-
  InstAll's walk.
-/
import Derived.Test.YtccndehhbccmgaaDoorInSure
import Derived.Test.YtccndehhbccmgaaDoorInFind
namespace Go.Proofs.YtccndehhbccmgaaDoor
open Go.RowKit
set_option linter.unusedVariables false

theorem nameL_inj : ∀ i, i < 57 → ∀ j, j < 57 → nameL.getD i [] = nameL.getD j [] → i = j := by decide +kernel
theorem nameN_inj (i j : Nat) (hi : i < 57) (hj : j < 57) (h : nameN i = nameN j) : i = j := by
  unfold nameN at h
  simp only [ByteArray.mk.injEq] at h
  exact nameL_inj i hi j hj (by simpa using congrArg Array.toList h)
theorem nameN_some (i : Nat) (hi : i < 57) : nameN i ≠ ⟨#[]⟩ := by
  have : ∀ x ∈ nameL, x ≠ [] := by decide +kernel
  unfold nameN
  have hi' : i < nameL.length := hi
  rw [List.getD_eq_getElem?_getD, List.getElem?_eq_getElem hi']
  have h := this _ (List.getElem_mem hi')
  simp only [Option.getD_some]
  intro e
  simp only [ByteArray.mk.injEq] at e
  apply h
  simpa using congrArg Array.toList e
theorem kindN_some (i : Nat) (hi : i < 57) : kindN i ≠ 0 := by
  rcases kindN_is i hi with h | h | h | h | h | h | h | h | h | h | h <;> omega

set_option maxHeartbeats 1000000 in
set_option maxRecDepth 100000 in
theorem all_walk (c : Int) (w0 : (Lit.int .i64 c).wf = true) (w : World) (hT : TabsAt w) :
    Calls Tryd.prog 8 #[.int .i64 c] w fun e w' => e = .returned (.bool true) ∧ Below w.heap.size w w' := by
  obtain ⟨k, hk, hlt⟩ : ∃ k : Nat, wrap64 ((IntKind.u64.wrap c).tmod 57) = (k : Int) ∧ k < 57 := by
    have e : (c % 18446744073709551616).tmod 57 = (c % 18446744073709551616) % 57 := Int.tmod_eq_emod_of_nonneg (by omega)
    refine ⟨((c % 18446744073709551616) % 57).toNat, ?_, by omega⟩
    rw [IntKind.wrap_u64, e]
    unfold wrap64
    omega
  have HN := hide (name_yes k hlt w hT.2)
  have HF := hide (find_hit (nameN k) k hlt rfl (fun j hj e => by have := nameN_inj j k (by omega) hlt e; omega) w hT.2)
  have HK := hide (kind_yes k hlt w hT.1.1)
  have HS := hide (sure_any w hT)
  have hk0 := kindN_some k hlt
  have hs : ¬ (nameN k).toList = [] := by
    have := str_ne (nameN_some k hlt)
    rw [beq_eq_false_iff_ne] at this
    intro e; exact this (e.trans (by rw [ByteArray.toList_eq]))
  clear hT
  generalize nameN k = s at *
  generalize kindN k = z at *
  go_enter Tryd.func8, Tryd.ntmps8
  go_wp2_with (first | (go_at_call 19; refine HN.out.mono ?_; rintro e w2 ⟨rfl, rfl⟩) | (go_at_call 17; refine HF.out.mono ?_; rintro e w3 ⟨rfl, rfl⟩) | (go_at_call 21; refine HK.out.mono ?_; rintro e w4 ⟨rfl, rfl⟩) | (go_at_call 12; refine HS.out.mono ?_; rintro e w5 ⟨rfl, hb5⟩))
  go_ret
  exact ⟨ret_bool (by simp [hs, hk0]), hb5⟩
end Go.Proofs.YtccndehhbccmgaaDoor
