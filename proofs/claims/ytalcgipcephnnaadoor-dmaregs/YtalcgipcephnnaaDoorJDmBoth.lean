/-
  The document's memory in a block of its own, and beside the program's.
-/
import Derived.Test.YtalcgipcephnnaaDoorJMeB2
import Derived.Test.YtalcgipcephnnaaDoorJMeRef4
namespace Go.Proofs.YtalcgipcephnnaaDoor
open Go.RowKit
set_option linter.unusedVariables false
set_option linter.unusedSimpArgs false

variable {ops : Array Oper} {rest : List Oper} {dst : Option Tmp} {ty : TypeId} {pos : String} {after : Array Edge} {a : Act} {w : World} {Q : Exit → Act → World → Prop} {x y : Operand} {S : World → Prop} {K : Act → World → Prop} {gd : Option (Nat × Bool)}
theorem al_Rz (N : Nat) (hN : w.heap.size = N)
    (k : ∀ W, RowAt W N zR 46 → Below N w W → Hid (W.heap.size = N + 1) → wpList Tryd.prog ops Q rest (a.put dst (.pointer (some ⟨N, 0, none⟩))) W) :
    wpList Tryd.prog ops Q (⟨dst, .alloc 46, ty, pos, after, none⟩ :: rest) a w := op_alloc N hN zR zero_R k
theorem ld_Rw (b : Nat) (r : RP) (N n : Nat) (hr : RowAt w b (r.v N n) 46) (hx : a.eval x = .pointer (some ⟨b, 0, none⟩)) (hw : Region.wanted ⟨dst, .load 46 x, ty, pos, after, gd⟩ (yielded ops a.tmps) = true)
    (k : wpList Tryd.prog ops Q rest (a.put dst (.agg (r.v N n))) w) : wpList Tryd.prog ops Q (⟨dst, .load 46 x, ty, pos, after, gd⟩ :: rest) a w :=
  BigFrame.wpList_want hw fun K hK => wp_load_row 46 x rfl b hx _ (r.v N n) (0, 0) _ hr Tryd.underlying46 rfl size_R (hK _ _ k)
theorem y_Rw (b : Nat) (r : RP) (N n : Nat) (hS : ∀ V, S V → RowAt V b (r.v N n) 46) (hx : a.eval x = .pointer (some ⟨b, 0, none⟩)) :
    YieldsIf Tryd.prog ops S ⟨dst, .load 46 x, ty, pos, after, none⟩ (.agg (r.v N n)) a := y_load b (r.v N n) _ hS _ Tryd.underlying46 rfl size_R hx
theorem s_ldR (b : Nat) (r : RP) (N n : Nat) (hr : RowAt w b (r.v N n) 46) (hx : a.eval x = .pointer (some ⟨b, 0, none⟩)) (k : K (a.put dst (.agg (r.v N n))) w) :
    Oper.wp Tryd.prog ⟨dst, .load 46 x, ty, pos, after, none⟩ a w K Q := wp_load_row 46 x rfl b hx _ (r.v N n) (0, 0) _ hr Tryd.underlying46 rfl size_R k
theorem s_stR (b : Nat) (old : Array Value) (r : RP) (N n : Nat) (hr : RowAt w b old 46) (ho : old.size = 3) (hx : a.eval x = .pointer (some ⟨b, 0, none⟩)) (hy : a.eval y = .agg (r.v N n))
    (k : ∀ W, RowAt W b (r.v N n) 46 → Only b w W → K (a.put dst undef) W) :
    Oper.wp Tryd.prog ⟨dst, .store 46 x y, ty, pos, after, none⟩ a w K Q :=
  s_store b hx (r.v N n) hy old _ hr size_R ho (v_one r N n) k
/-- The document's memory beside the program's: the same bytes, blocks of its own. -/
structure RefB (w : World) (B N n : Nat) (f : Nat → Nat) (r : RP) (O : Nat → Prop) : Prop where
  ref : RefAt w N n f r
  low : ∀ x, r.owns x → B ≤ x
  no : ∀ x, r.owns x → ¬ O x
theorem RefB.went {w w' : World} {B N n : Nat} {f : Nat → Nat} {r : RP} {O O' : Nat → Prop} (h : RefB w B N n f r O) (hw : Went B O O' w w') : RefB w' B N n f r O' :=
  ⟨h.ref.same (fun x hx => hw.other x (h.ref.lt hx) (h.no x hx)), h.low, fun x hx => hw.no (h.ref.lt hx) (h.no x hx)⟩
theorem RefB.bl {w w' : World} {B N n : Nat} {f : Nat → Nat} {r : RP} {O : Nat → Prop} (h : RefB w B N n f r O) (hb : Below w.heap.size w w') : RefB w' B N n f r O := ⟨h.ref.bl hb, h.low, h.no⟩
theorem RefB.dr {w : World} {B N n : Nat} {f : Nat → Nat} {r : RP} {O : Nat → Prop} (h : RefB w B N n f r O) : RefB w.drew B N n f r O := ⟨h.ref.same (fun _ _ => rfl), h.low, h.no⟩
theorem RefB.dn {w : World} {B N n : Nat} {f : Nat → Nat} {r : RP} {O : Nat → Prop} (h : RefB w B N n f r O) (k : Nat) : RefB (w.drewN k) B N n f r O := ⟨h.ref.same (fun _ _ => rfl), h.low, h.no⟩
theorem RefB.only {w w' : World} {B N n g : Nat} {f : Nat → Nat} {r : RP} {O : Nat → Prop} (h : RefB w B N n f r O) (ho : Only g w w') (hg : ¬ r.owns g) : RefB w' B N n f r O :=
  ⟨h.ref.same (fun x hx => ho.row x (fun e => hg (e ▸ hx))), h.low, h.no⟩
/-- What a call of the document's leaves: new blocks, or the elder ones. -/
theorem RefB.next {w w' : World} {B N n b p c : Nat} {f g fm : Nat → Nat} {r r' : RP} {O : Nat → Prop} (h : RefB w B N n f r O) (hM : RamB w B b p fm c O) (hr : RefAt w' N n g r') (hn : ∀ x, r'.owns x → r.owns x ∨ w.heap.size ≤ x) : RefB w' B N n g r' O :=
  ⟨hr, fun x hx => (hn x hx).elim (h.low x) (fun e => Nat.le_trans hM.base e), fun x hx e => (hn x hx).elim (fun k => h.no x k e) (fun k => absurd (hM.lt x e) (by omega))⟩
/-- Words that came in, two by two. -/
structure PairsAt (w : World) (B : Nat) (la : Option Addr) (len : Nat) (g : Nat → Nat → Nat) : Prop where
  lies : ∀ j, j < len → ∃ b o, la = some ⟨b, o, none⟩ ∧ b < B ∧ w.cell? ⟨b, o + j * 2, none⟩ = some (.int .u32 (g j 0 : Nat)) ∧ w.cell? ⟨b, o + j * 2 + 1, none⟩ = some (.int .u32 (g j 1 : Nat))
  small : ∀ j, j < len → g j 0 < 4294967296 ∧ g j 1 < 4294967296
def atOf (x : Nat) : Nat := x % 8192 / 4 * 4
theorem atOf_in (x : Nat) : atOf x % 4 = 0 ∧ atOf x + 4 ≤ 8192 := by unfold atOf; omega
end Go.Proofs.YtalcgipcephnnaaDoor
