/-
  What Decode, Encode and Check answer, whatever is handed in, as plain functions; and how these go together.
-/
import Derived.Test.YtoekcfbjdcibpaaGreatDoorInBackM
import Derived.Test.YtoekcfbjdcibpaaGreatDoorInTabs
namespace Go.Proofs.YtoekcfbjdcibpaaGreatDoor
open Go.RowKit
set_option linter.unusedVariables false

def decOp (v : Nat) : Option Nat := (List.range 57).find? fun op => matchN op v
def decI (v : Nat) : I6 := match decOp v with | some op => toldN op v | none => ⟨0, 0, 0, 0, 0, 0⟩
def errno (n : Int) : Value := if n = 0 then .nilIface else .iface 69 (.int .i64 n)
def decN (v : Nat) : Int := match decOp v with | some _ => 0 | none => 3
def encOk (i : I6) : Bool := decide (0 ≤ i.op ∧ i.op < 57) && (toldN i.op.toNat (laidN i.op.toNat i)).same i
def encW (i : I6) : Nat := if encOk i then laidN i.op.toNat i else 0
def encN (i : I6) : Int := if encOk i then 0 else 1

theorem errno_zero : errno 0 = .nilIface := rfl
theorem errno_pos (n : Int) (h : n ≠ 0) : errno n = .iface 69 (.int .i64 n) := if_neg h

theorem decOp_some {v op : Nat} (h : decOp v = some op) : op < 57 ∧ matchN op v = true := by
  unfold decOp at h
  have h1 := List.find?_some h
  have h2 := List.mem_of_find?_eq_some h
  exact ⟨List.mem_range.1 h2, h1⟩
theorem decOp_none {v : Nat} (h : decOp v = none) : ∀ j, j < 57 → matchN j v = false := by
  unfold decOp at h
  rw [List.find?_eq_none] at h
  intro j hj
  have := h j (List.mem_range.2 hj)
  simpa using this
theorem decOp_of {v op : Nat} (hop : op < 57) (h : matchN op v = true) : decOp v = some op := by
  cases hd : decOp v with
  | none => have := decOp_none hd op hop; rw [h] at this; cases this
  | some o => obtain ⟨h1, h2⟩ := decOp_some hd; rw [match_one o op v h1 hop h2 h]

theorem encW_lt (i : I6) : encW i < 4294967296 := by
  unfold encW; split
  · exact spread_lt _ _ _ (startN_lt _ _)
  · decide

theorem decode_all (v : Nat) (hv : v < 4294967296) (w : World) (hT : TabsAt w) :
    Calls Tryz.prog 19 #[.int .u32 v] w fun e w' => e = .returned (.tuple #[.agg (decI v).cells, errno (decN v)]) ∧ Below w.heap.size w w' := by
  unfold decI decN
  cases hd : decOp v with
  | none => exact decode_none v hv (decOp_none hd) w hT.1.1 hT.1.2
  | some op =>
    obtain ⟨h1, h2⟩ := decOp_some hd
    refine decode_hit v hv op h1 h2 (fun j hj => ?_) w hT.1.1 hT.1.2
    cases hm : matchN j v with
    | false => rfl
    | true => have := match_one j op v (by omega) h1 hm h2; omega

theorem op_nat {i : I6} (h : 0 ≤ i.op ∧ i.op < 57) : i.op.toNat < 57 ∧ i.op = (i.op.toNat : Nat) := by omega

theorem encode_all (i : I6) (w : World) (hT : TabsAt w) :
    Calls Tryz.prog 18 #[.agg i.cells] w fun e w' => e = .returned (.tuple #[.int .u32 (encW i : Nat), errno (encN i)]) ∧ Below w.heap.size w w' := by
  unfold encW encN
  by_cases h : 0 ≤ i.op ∧ i.op < 57
  · obtain ⟨h1, h2⟩ := op_nat h
    by_cases ht : toldN i.op.toNat (laidN i.op.toNat i) = i
    · have ho : encOk i = true := by unfold encOk; rw [ht, I6.same_self]; simp [h]
      rw [ho]
      exact encode_ok _ h1 i h2 w hT.1.1 hT.1.2 ht
    · have ho : encOk i = false := by unfold encOk; rw [I6.same_not ht]; simp
      rw [ho]
      exact encode_no _ h1 i h2 w hT.1.1 hT.1.2 ht
  · have ho : encOk i = false := by unfold encOk; simp [h]
    rw [ho]
    exact encode_bad i (by omega) w

theorem check_all (i : I6) (w : World) (hT : TabsAt w) :
    Calls Tryz.prog 20 #[.agg i.cells] w fun e w' => e = .returned (errno (encN i)) ∧ Below w.heap.size w w' := by
  unfold encN
  by_cases h : 0 ≤ i.op ∧ i.op < 57
  · obtain ⟨h1, h2⟩ := op_nat h
    by_cases ht : toldN i.op.toNat (laidN i.op.toNat i) = i
    · have ho : encOk i = true := by unfold encOk; rw [ht, I6.same_self]; simp [h]
      rw [ho]
      exact check_ok _ h1 i h2 w hT.1.1 hT.1.2 ht
    · have ho : encOk i = false := by unfold encOk; rw [I6.same_not ht]; simp
      rw [ho]
      exact check_no _ h1 i h2 w hT.1.1 hT.1.2 ht
  · have ho : encOk i = false := by unfold encOk; simp [h]
    rw [ho]
    exact check_bad i (by omega) w

/-- What a word tells has that word. -/
theorem enc_dec (v : Nat) (hv : v < 4294967296) (h : decN v = 0) : encN (decI v) = 0 ∧ encW (decI v) = v := by
  unfold decN at h
  cases hd : decOp v with
  | none => rw [hd] at h; cases h
  | some op =>
    obtain ⟨h1, h2⟩ := decOp_some hd
    have e : decI v = toldN op v := by unfold decI; rw [hd]
    have eo : (toldN op v).op.toNat = op := by rw [told_op]; rfl
    have el := laid_told op v h1 hv h2
    have ho : encOk (toldN op v) = true := by
      unfold encOk
      rw [eo, el, I6.same_self, told_op]
      simp; omega
    rw [e]
    unfold encN encW
    rw [ho, eo, el]
    exact ⟨rfl, rfl⟩

/-- An instruction that can be is its word's. -/
theorem dec_enc (i : I6) (h : encN i = 0) : decN (encW i) = 0 ∧ decI (encW i) = i := by
  have ho : encOk i = true := by
    unfold encN at h
    cases hh : encOk i with
    | true => rfl
    | false => rw [hh] at h; cases h
  have ho' := ho
  unfold encOk at ho
  simp only [Bool.and_eq_true, decide_eq_true_eq, I6.same_iff] at ho
  obtain ⟨h1, h2⟩ := op_nat ho.1
  have hv := told_ok _ h1 i ho.2
  have hm := (valid_ok _ h1 i h2 hv).2
  have ew : encW i = laidN i.op.toNat i := by unfold encW; rw [ho']; rfl
  have ed := decOp_of h1 hm
  rw [ew]
  unfold decN decI
  rw [ed]
  exact ⟨rfl, ho.2⟩
end Go.Proofs.YtoekcfbjdcibpaaGreatDoor
