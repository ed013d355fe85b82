/-
  InstNames' walk.
-/
import Derived.Test.YtccndehhbccmgaaDoorInLaw4
import Derived.Test.YtccndehhbccmgaaDoorRFind
import Derived.Test.YtccndehhbccmgaaDoorInAllW
namespace Go.Proofs.YtccndehhbccmgaaDoor
open Go.RowKit
set_option linter.unusedVariables false

def nameC (c : Int) : ByteArray := if 0 ≤ c ∧ c < 57 then nameN c.toNat else ⟨#[]⟩
def kindC (c : Int) : Nat := if 0 ≤ c ∧ c < 57 then kindN c.toNat else 0
def fndOp (s : ByteArray) : Option Nat := (List.range 57).find? fun op => decide (nameN op = s)
def fndK (s : ByteArray) : Int := match fndOp s with | some op => (op : Int) | none => 0
def fndN (s : ByteArray) : Int := match fndOp s with | some _ => 0 | none => 6

theorem name_all (c : Int) (w : World) (hT : TabsAt w) : Calls Tryd.prog 19 #[.int .i64 c] w fun e w' => e = .returned (.string (nameC c)) ∧ w' = w := by
  unfold nameC
  by_cases h : 0 ≤ c ∧ c < 57
  · obtain ⟨k, rfl⟩ := Int.eq_ofNat_of_zero_le h.1
    rw [if_pos h]
    exact name_yes k (by omega) w hT.2
  · rw [if_neg h]
    exact name_no c (by omega) w
theorem rname_all (c : Int) (w : World) : Calls Tryd.prog 20 #[.int .i64 c] w fun e w' => e = .returned (.string (nameC c)) ∧ Below w.heap.size w w' := by
  unfold nameC
  by_cases h : 0 ≤ c ∧ c < 57
  · obtain ⟨k, rfl⟩ := Int.eq_ofNat_of_zero_le h.1
    rw [if_pos h]
    exact rname_yes k (by omega) w
  · rw [if_neg h]
    refine (rname_no c (by omega) w).mono ?_
    rintro e w' ⟨rfl, rfl⟩
    exact ⟨rfl, Below.refl _ _⟩
theorem kind_all (c : Int) (w : World) (hT : TabsAt w) : Calls Tryd.prog 21 #[.int .i64 c] w fun e w' => e = .returned (.int .u8 (kindC c : Nat)) ∧ w' = w := by
  unfold kindC
  by_cases h : 0 ≤ c ∧ c < 57
  · obtain ⟨k, rfl⟩ := Int.eq_ofNat_of_zero_le h.1
    rw [if_pos h]
    exact kind_yes k (by omega) w hT.1.1
  · rw [if_neg h]
    exact kind_no c (by omega) w
theorem rkind_all (c : Int) (w : World) : Calls Tryd.prog 22 #[.int .i64 c] w fun e w' => e = .returned (.int .u8 (kindC c : Nat)) ∧ w' = w := by
  unfold kindC
  by_cases h : 0 ≤ c ∧ c < 57
  · obtain ⟨k, rfl⟩ := Int.eq_ofNat_of_zero_le h.1
    rw [if_pos h]
    exact rkind_yes k (by omega) w
  · rw [if_neg h]
    exact rkind_no c (by omega) w

theorem fndOp_some {s : ByteArray} {op : Nat} (h : fndOp s = some op) : op < 57 ∧ nameN op = s := by
  unfold fndOp at h
  have h1 := List.find?_some h
  have h2 := List.mem_of_find?_eq_some h
  exact ⟨List.mem_range.1 h2, by simpa using h1⟩
theorem fndOp_none {s : ByteArray} (h : fndOp s = none) : ∀ j, j < 57 → nameN j ≠ s := by
  unfold fndOp at h
  rw [List.find?_eq_none] at h
  intro j hj
  have := h j (List.mem_range.2 hj)
  simpa using this

theorem find_all (s : ByteArray) (w : World) (hT : TabsAt w) : Calls Tryd.prog 17 #[.string s] w fun e w' => e = .returned (.tuple #[.int .i64 (fndK s), errno (fndN s)]) ∧ w' = w := by
  unfold fndK fndN
  cases hf : fndOp s with
  | none => exact find_none s (fndOp_none hf) w hT.2
  | some op =>
    obtain ⟨h1, rfl⟩ := fndOp_some hf
    exact find_hit _ op h1 rfl (fun j hj e => by have := nameN_inj j op (by omega) h1 e; omega) w hT.2
theorem rfind_all (s : ByteArray) (w : World) : Calls Tryd.prog 18 #[.string s] w fun e w' => e = .returned (.tuple #[.int .i64 (fndK s), .int .i64 (fndN s)]) ∧ Below w.heap.size w w' := by
  unfold fndK fndN
  cases hf : fndOp s with
  | none => exact rfind_none s (fndOp_none hf) w
  | some op =>
    obtain ⟨h1, rfl⟩ := fndOp_some hf
    exact rfind_hit _ op h1 rfl (fun j hj e => by have := nameN_inj j op (by omega) h1 e; omega) w

set_option maxHeartbeats 2000000 in
set_option maxRecDepth 100000 in
theorem names_walk (c : Int) (s : ByteArray) (w : World) (hT : TabsAt w) (hH : HandleAt w) :
    Calls Tryd.prog 5 #[.int .i64 c, .string s] w fun e w' => e = .returned (.bool true) ∧ Below w.heap.size w w' := by
  have HT := hide hT
  have HH := hide hH
  have HS := hide sure_any
  have HN := hide name_all
  have HRN := hide rname_all
  have HK := hide kind_all
  have HRK := hide rkind_all
  have HF := hide find_all
  have HRF := hide rfind_all
  have HNU := hide num_all
  clear hT hH
  have hb := Below.refl w.heap.size w
  go_enter Tryd.func5, Tryd.ntmps5
  go_wp2_with (first | (go_at_call 17; refine (HF.out _ _ ?_).mono ?_; exact HT.out.below hb; rintro e w2 ⟨rfl, rfl⟩) | (go_at_call 18; refine (HRF.out _ _).mono ?_; rintro e w2 ⟨rfl, hb2⟩; replace hb := hb.trans (hb2.mono hb.size); clear hb2) | (go_at_call 19; refine (HN.out _ _ ?_).mono ?_; exact HT.out.below hb; rintro e w2 ⟨rfl, rfl⟩) | (go_at_call 20; refine (HRN.out _ _).mono ?_; rintro e w2 ⟨rfl, hb2⟩; replace hb := hb.trans (hb2.mono hb.size); clear hb2) | (go_at_call 21; refine (HK.out _ _ ?_).mono ?_; exact HT.out.below hb; rintro e w2 ⟨rfl, rfl⟩) | (go_at_call 22; refine (HRK.out _ _).mono ?_; rintro e w2 ⟨rfl, rfl⟩) | (go_at_call 11; refine (HNU.out _ _ ?_).mono ?_; exact HH.out.below hb; rintro e w2 ⟨rfl, hb2⟩; replace hb := hb.trans (hb2.mono hb.size); clear hb2) | (go_at_call 12; refine (HS.out _ ?_).mono ?_; exact HT.out.below hb; rintro e w2 ⟨rfl, hb2⟩; replace hb := hb.trans (hb2.mono hb.size); clear hb2))
  go_ret
  exact ⟨rfl, hb⟩
end Go.Proofs.YtccndehhbccmgaaDoor
