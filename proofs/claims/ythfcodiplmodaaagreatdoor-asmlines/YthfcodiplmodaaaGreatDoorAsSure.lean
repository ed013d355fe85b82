/-
  What the laws' sure answers.
-/
import Derived.Test.YthfcodiplmodaaaGreatDoorAsProg
namespace Go.Proofs.YthfcodiplmodaaaGreatDoor
open Go.RowKit
set_option linter.unusedVariables false

def loopS : Str := [108, 111, 111, 112, 58, 10, 97, 100, 100, 105, 32, 120, 49, 44, 32, 120, 49, 44, 32, 45, 49, 10, 98, 110, 101, 32, 120, 49, 44, 32, 120, 48, 44, 32, 108, 111, 111, 112, 10]
set_option maxRecDepth 100000 in
theorem prog_loop : progL loopS = (0, 0, [0xfff08093, 0xfe009ee3]) := by decide +kernel
theorem words_cell {W : World} {B n : Nat} {v : Value} {l : List Nat} (h : W.ownsRow B 48 1 v n (wordCells l)) (hn : l.length = n) (hv : l ≠ []) : ∃ g cap, v = .slice (some ⟨g, 0, none⟩) n cap ∧ B ≤ g ∧ n ≤ cap ∧ cap ≤ maxLen ∧ ∀ (k x : Nat), l[k]? = some x → W.cell? ⟨g, k, none⟩ = some (.int .u32 (x : Int)) := by
  have hc := fun (g cap : Nat) (hh : v = .slice (some ⟨g, 0, none⟩) n cap) (k x : Nat) (hk : l[k]? = some x) => (show W.cell? ⟨g, k, none⟩ = some (.int .u32 (x : Int)) from by
    subst hh
    have hkl : k < l.length := (List.getElem?_eq_some_iff.1 hk).1
    refine (h.cellAt k (by omega)).trans ?_
    unfold wordCells
    rw [List.getElem?_map, hk]
    rfl)
  obtain ⟨h1, ⟨h2, h3⟩ | ⟨g, cap, cur, e1, e2, e3, e4, e5, e6⟩⟩ := h
  · subst h3
    exact absurd (List.length_eq_zero_iff.1 hn) hv
  · exact ⟨g, cap, e1, e2, e4, e5, hc g cap e1⟩

set_option maxHeartbeats 1000000 in
set_option maxRecDepth 100000 in
theorem sure_any (w : World) (hA : AsAt w) :
    Calls Tryz.prog 12 #[] w fun e w' => e = .returned (.bool true) ∧ Below w.heap.size w w' := by
  have HP := hide (fun w h => (prog_any loopS (by decide) w h).mono (fun e w' h' => (by
    rw [prog_loop] at h'
    obtain ⟨v, he, ho, hb, _⟩ := h'
    obtain ⟨g, cap, rfl, hg, hcp, hcm, hc⟩ := words_cell ho rfl (by decide)
    exact ⟨g, cap, he, hc 1 0xfe009ee3 rfl, hcp, hb⟩ : ∃ g cap : Nat, e = .returned (.tuple #[.slice (some ⟨g, 0, none⟩) 2 cap, .int .i64 0, .nilIface]) ∧ w'.cell? ⟨g, 1, none⟩ = some (.int .u32 0xfe009ee3) ∧ 2 ≤ cap ∧ Below w.heap.size w w')))
  have HA := hide hA
  clear hA
  go_enter Tryz.func12, Tryz.ntmps12
  go_wp2_with (go_at_call 15; refine (HP.out _ HA.out).mono ?_; rintro e w2 ⟨g, cap, rfl, hc, hcp, hx2⟩; have HB2 := hide hx2; clear hx2)
  go_ret
  exact ⟨rfl, HB2.out⟩
end Go.Proofs.YthfcodiplmodaaaGreatDoor
