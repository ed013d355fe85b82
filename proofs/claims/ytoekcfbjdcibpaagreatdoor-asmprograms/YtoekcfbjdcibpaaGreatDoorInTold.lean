/-
  What inst.told answers.
-/
import Derived.Test.YtoekcfbjdcibpaaGreatDoorInNum
import Derived.Laws.CopyOwn
namespace Go.Proofs.YtoekcfbjdcibpaaGreatDoor
open Go.RowKit
set_option linter.unusedVariables false

/-- An instruction. -/
structure I6 where
  op : Int
  rd : Int
  rs1 : Int
  rs2 : Int
  imm : Int
  csr : Int

/-- Whether two instructions are the same. -/
def I6.same (a b : I6) : Bool := a.op == b.op && (a.rd == b.rd && (a.rs1 == b.rs1 && (a.rs2 == b.rs2 && (a.imm == b.imm && a.csr == b.csr))))
theorem I6.same_iff (a b : I6) : a.same b = true ↔ a = b := by
  obtain ⟨a0, a1, a2, a3, a4, a5⟩ := a
  obtain ⟨b0, b1, b2, b3, b4, b5⟩ := b
  simp [I6.same]
theorem I6.same_self (a : I6) : a.same a = true := (I6.same_iff a a).2 rfl
theorem I6.same_not {a b : I6} (h : a ≠ b) : a.same b = false := by
  cases hs : a.same b with
  | false => rfl
  | true => exact absurd ((I6.same_iff a b).1 hs) h

def I6.cells (i : I6) : Array Value := #[.int .i64 i.op, .int .i64 i.rd, .int .i64 i.rs1, .int .i64 i.rs2, .int .i64 i.imm, .int .i64 i.csr]

def toldK (k op v : Nat) : I6 :=
  if k = 85 ∨ k = 74 then ⟨op, fieldW v 7 5, 0, 0, numberN k v, 0⟩
  else if k = 73 ∨ k = 76 ∨ k = 70 ∨ k = 72 then ⟨op, fieldW v 7 5, fieldW v 15 5, 0, numberN k v, 0⟩
  else if k = 66 ∨ k = 83 then ⟨op, 0, fieldW v 15 5, fieldW v 20 5, numberN k v, 0⟩
  else if k = 82 then ⟨op, fieldW v 7 5, fieldW v 15 5, fieldW v 20 5, 0, 0⟩
  else if k = 67 then ⟨op, fieldW v 7 5, fieldW v 15 5, 0, 0, fieldW v 20 12⟩
  else ⟨op, 0, 0, 0, 0, 0⟩
def toldN (op v : Nat) : I6 := toldK (kindN op) op v

theorem size_inst : (Tryz.prog.info? 28).map (·.size) = some 6 := by kernel_rfl

theorem w64_field (v : Nat) (lo n : Int) : wrap64 ((fieldW v lo n : Nat) : Int) = ((fieldW v lo n : Nat) : Int) := by
  have := fieldW_lt v lo n
  unfold wrap64; omega

theorem six_one (a b c d e f : Int) : (#[Value.int .i64 a, .int .i64 b, .int .i64 c, .int .i64 d, .int .i64 e, .int .i64 f].all (·.oneCell')) = true := by simp [Value.oneCell']

set_option maxHeartbeats 4000000 in
set_option maxRecDepth 100000 in
theorem told_at (k op : Nat) (hk : IsKind k) (hop : op < 57) (v : Nat) (hv : v < 4294967296) (w : World) (hg : 0 < w.heap.size) (hc : w.cell? ⟨0, op, none⟩ = some (.int .u8 k)) :
    Calls Tryz.prog 54 #[.int .i64 op, .int .u32 v] w fun e w' => e = .returned (.agg (toldK k op v).cells) ∧ Below w.heap.size w w' := by
  have FD := hide (fun (lo n : Int) (h : 0 ≤ lo ∧ lo ≤ 32 ∧ n ≤ 32) => field_any v hv lo n (by omega) (by omega) (by omega))
  have NB := hide (number_any k hk v hv)
  rcases hk with rfl | rfl | rfl | rfl | rfl | rfl | rfl | rfl | rfl | rfl | rfl
  all_goals
    go_enter Tryz.func54, Tryz.ntmps54
    go_wp2_with (first | (go_at_call 85; refine (FD.out _ _ (by omega) _).mono ?_; rintro e w2 ⟨rfl, rfl⟩) | (go_at_call 86; refine (NB.out _).mono ?_; rintro e w3 ⟨rfl, hb3⟩; have hrow := hide ((hb3.block w.heap.size (by simp)).trans (heap_alloc_new w _)); replace hb3 := ((Below.refl _ w).alloc (Nat.le_refl _) _).trans (hb3.mono (by simp)); have hc3 := (hb3.cell (p := ⟨0, op, none⟩) hg).trans hc) | (refine wpList_store_row rfl 28 _ _ rfl w.heap.size _ rfl rfl _ _ hrow.out size_inst rfl (six_one _ _ _ _ _ _) ?_))
    refine bodyPost_ret (results_cell_row Tryz.results54 _ _ w.heap.size _ _ _ _ rfl (setRow_heap _ _ _ _ _ _ hrow.out) Tryz.underlying28 rfl size_inst) rfl ?_
    refine ⟨?_, below_setRow hb3 (Nat.le_refl _) _⟩
    try simp only [w64_field]
    rfl

theorem told_any (op : Nat) (hop : op < 57) (v : Nat) (hv : v < 4294967296) (w : World) (hK : KindsAt w) :
    Calls Tryz.prog 54 #[.int .i64 op, .int .u32 v] w fun e w' => e = .returned (.agg (toldN op v).cells) ∧ Below w.heap.size w w' :=
  told_at (kindN op) op (kindN_is op hop) hop v hv w hK.lt (hK op hop)
end Go.Proofs.YtoekcfbjdcibpaaGreatDoor
