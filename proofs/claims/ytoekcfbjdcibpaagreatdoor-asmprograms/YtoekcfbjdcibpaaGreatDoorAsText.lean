/-
  What asm.register, asm.operands and asm.told answer.
-/
import Derived.Test.YtoekcfbjdcibpaaGreatDoorAsAt
import Derived.Test.YtoekcfbjdcibpaaGreatDoorAsSpec
import Derived.Lib.ItoaLen
import Derived.OwnWalk
namespace Go.Proofs.YtoekcfbjdcibpaaGreatDoor
open Go.RowKit
set_option linter.unusedVariables false

theorem ret_str {a b : ByteArray} (h : a = b) : Ending.returned (.string a) = .returned (.string b) := by rw [h]
theorem ba_append (a b : Str) : (⟨a.toArray⟩ ++ ⟨b.toArray⟩ : ByteArray) = ⟨(a ++ b).toArray⟩ := by
  apply ByteArray.ext; simp

set_option maxHeartbeats 1000000 in
set_option maxRecDepth 100000 in
theorem register_any (n : Int) (h0 : -9223372036854775808 ≤ n) (h1 : n ≤ 9223372036854775807) (w : World) (h : PowAt w) :
    Calls Tryz.prog 58 #[.int .i64 n] w fun e w' => e = .returned (.string ⟨(regL n).toArray⟩) ∧ Below w.heap.size w w' := by
  have HI := hide (itoa_any n h0 h1)
  have HP := hide h
  have hl : ¬ 9223372036854775807 < 1 + (Lib.itoa n).length := by have := Lib.itoa_length_le n h0 h1; omega
  clear h
  go_enter Tryz.func58, Tryz.ntmps58
  go_wp2_with (go_at_call 59; refine (HI.out _ HP.out).mono ?_; rintro e w2 ⟨rfl, hb2⟩)
  go_ret
  exact ⟨ret_str (ba_append [120] _), hb2⟩

set_option maxHeartbeats 1000000 in
set_option maxRecDepth 100000 in
theorem oper_any (op : Nat) (hop : op < 57) (w : World) (hT : TabsAt w) :
    Calls Tryz.prog 23 #[.int .i64 op] w fun e w' => e = .returned (.string ⟨(operK (kindN op) op).toArray⟩) ∧ w' = w := by
  have HK := hide (kind_yes op hop w hT.1.1)
  have hk := kindN_is op hop
  clear hT
  generalize kindN op = k at *
  rcases hk with rfl | rfl | rfl | rfl | rfl | rfl | rfl | rfl | rfl | rfl | rfl
  all_goals
    go_enter Tryz.func23, Tryz.ntmps23
    go_wp2_with (go_at_call 57; refine HK.out.mono ?_; rintro e w2 ⟨rfl, rfl⟩)
  all_goals (first | (go_ret; exact ⟨rfl, rfl⟩) | skip)
  · rename_i h54
    go_ret
    exact ⟨ret_str (by simp [operK, show 54 ≤ op by omega]), rfl⟩
  · rename_i h54
    go_ret
    exact ⟨ret_str (by simp [operK, show ¬ 54 ≤ op by omega]), rfl⟩

/-- What a number may be. -/
def I64 (n : Int) : Prop := -9223372036854775808 ≤ n ∧ n ≤ 9223372036854775807
def In64 (i : I6) : Prop := (I64 i.rd ∧ I64 i.rs1 ∧ I64 i.rs2) ∧ I64 i.imm ∧ I64 i.csr

/-- The bytes of which operands are made. -/
def Part (c : UInt8) : Prop := c = 100 ∨ c = 115 ∨ c = 116 ∨ c = 122 ∨ c = 110 ∨ c = 117 ∨ c = 99 ∨ c = 44 ∨ c = 32 ∨ c = 40 ∨ c = 41

theorem below_new {w w2 : World} {o : Obj} (h : Below (w.alloc o).heap.size (w.alloc o) w2) : Below w.heap.size w w2 :=
  ((Below.refl _ w).alloc (Nat.le_refl _) o).trans (h.mono (by simp))
theorem below_box (w : World) (o : Obj) : Below w.heap.size w (w.alloc o) := (Below.refl _ w).alloc (Nat.le_refl _) o

theorem tdiv_I64 {z : Int} (h : I64 z) : I64 (z.tdiv 4096) := by
  have e := Int.tdiv_eq_ediv (a := z) (b := 4096)
  rw [show Int.sign 4096 = 1 from rfl] at e
  unfold I64 at h ⊢
  split at e <;> omega

theorem wrap_I64 {z : Int} (h : I64 z) : wrap64 z = z := by unfold I64 at h; unfold wrap64; omega

set_option maxHeartbeats 4000000 in
set_option maxRecDepth 100000 in
theorem atold_any (i : I6) (hi : In64 i) (c : UInt8) (hc : Part c) (w : World) (h : PowAt w) :
    Calls Tryz.prog 25 #[.agg i.cells, .int .u8 c.toNat] w fun e w' => e = .returned (.string ⟨(toldL i c).toArray⟩) ∧ Below w.heap.size w w' := by
  have HR := hide (fun n (h : I64 n) => register_any n h.1 h.2)
  have HI := hide (fun n (h : I64 n) => itoa_any n h.1 h.2)
  have HP := hide (fun o => tabIs_keeps gPow h (below_box w o))
  obtain ⟨op, rd, rs1, rs2, imm, csr⟩ := i
  obtain ⟨⟨hrd, hrs1, hrs2⟩, himm, hcsr⟩ := hi
  have HU := hide (tdiv_I64 himm)
  have hw := wrap_I64 HU.out
  have HB := hide hrd; have H1 := hide hrs1; have H2 := hide hrs2; have HM := hide himm; have HC := hide hcsr
  clear h hrd hrs1 hrs2 himm hcsr
  simp only [I6.cells]
  rcases hc with rfl | rfl | rfl | rfl | rfl | rfl | rfl | rfl | rfl | rfl | rfl
  · go_enter Tryz.func25, Tryz.ntmps25
    go_wp2_with (go_at_call 58; refine (HR.out _ HB.out _ (HP.out _)).mono ?_; rintro e w2 ⟨rfl, hb2⟩)
    go_ret
    exact ⟨rfl, below_new hb2⟩
  · go_enter Tryz.func25, Tryz.ntmps25
    go_wp2_with (go_at_call 58; refine (HR.out _ H1.out _ (HP.out _)).mono ?_; rintro e w2 ⟨rfl, hb2⟩)
    go_ret
    exact ⟨rfl, below_new hb2⟩
  · go_enter Tryz.func25, Tryz.ntmps25
    go_wp2_with (go_at_call 58; refine (HR.out _ H2.out _ (HP.out _)).mono ?_; rintro e w2 ⟨rfl, hb2⟩)
    go_ret
    exact ⟨rfl, below_new hb2⟩
  · go_enter Tryz.func25, Tryz.ntmps25
    go_wp2_with (go_at_call 59; refine (HI.out _ H1.out _ (HP.out _)).mono ?_; rintro e w2 ⟨rfl, hb2⟩)
    go_ret
    exact ⟨rfl, below_new hb2⟩
  · go_enter Tryz.func25, Tryz.ntmps25
    go_wp2_with (go_at_call 59; refine (HI.out _ HM.out _ (HP.out _)).mono ?_; rintro e w2 ⟨rfl, hb2⟩)
    go_ret
    exact ⟨rfl, below_new hb2⟩
  · go_enter Tryz.func25, Tryz.ntmps25
    go_wp2_with (go_at_call 59; refine (HI.out _ HU.out _ (HP.out _)).mono ?_; rintro e w2 ⟨rfl, hb2⟩)
    go_ret
    exact ⟨rfl, below_new hb2⟩
  · go_enter Tryz.func25, Tryz.ntmps25
    go_wp2_with (go_at_call 59; refine (HI.out _ HC.out _ (HP.out _)).mono ?_; rintro e w2 ⟨rfl, hb2⟩)
    go_ret
    exact ⟨rfl, below_new hb2⟩
  all_goals
    go_enter Tryz.func25, Tryz.ntmps25
    go_wp2
    go_ret
    exact ⟨rfl, below_box w _⟩
end Go.Proofs.YtoekcfbjdcibpaaGreatDoor
