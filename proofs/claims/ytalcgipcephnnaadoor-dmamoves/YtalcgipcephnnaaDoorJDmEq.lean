/-
  Two engines compared.
-/
import Derived.Test.YtalcgipcephnnaaDoorJMeB2
import Derived.Deep.WholeRow
import Derived.RegionTactic
import Derived.Laws.ResultCell
import Derived.Deep.RegionHeld3
import Derived.Laws.StructEq
import Derived.ChangeKeysEq
namespace Go.Proofs.YtalcgipcephnnaaDoor
open Go.RowKit
set_option linter.unusedVariables false

structure E where
  cd : Nat
  hd : Nat
  pl : Nat
  st : Nat
  mv : Nat
  hv : Bool
  fr : Nat
  tt : Nat
  lf : Nat
  nx : Nat
  ak : Bool
structure E.Ok (s : E) : Prop where
  cd : s.cd < 4294967296
  hd : s.hd < 4294967296
  pl : s.pl < 4294967296
  st : s.st < 4294967296
  mv : s.mv < 4294967296
  fr : s.fr < 4294967296
  tt : s.tt < 4294967296
  lf : s.lf < 4294967296
  nx : s.nx < 4294967296
def noOrd (s : E) : E := { s with hv := false, fr := 0, tt := 0, lf := 0, nx := 0 }
def zeroE : E := ⟨0, 0, 0, 0, 0, false, 0, 0, 0, 0, false⟩
def isOv (s : E) : Bool := (s.cd == 2) || (s.cd == 3)
def same0 (s : E) : Bool := (s.fr == 0) && ((s.tt == 0) && ((s.lf == 0) && (s.nx == 0)))
def ordB (s : E) : Bool := if s.hv then (s.cd == 1) && (decide (1 ≤ s.lf) && decide (s.lf ≤ 65536)) else same0 s
def mayE (s : E) : Bool := decide (s.cd ≤ 3) && (decide (s.st ≤ 64) && ((!s.ak || isOv s) && ordB s))
def endE (s : E) (c : Nat) : E := { noOrd s with cd := c, ak := true }
def goE (s : E) (v : Nat) : E := if v = 1 ∧ s.cd ≠ 1 then { zeroE with cd := 1, hd := s.hd, pl := s.hd } else if v = 2 then { zeroE with hd := s.hd, mv := s.mv } else s
def chkE (b : Bool) : Nat := if b then 0 else 1
def accE (s : E) (a : Nat) : Nat := if mayE s then (if 256 ≤ a ∨ a % 4 ≠ 0 then 20 else 0) else 1
def b2n (b : Bool) : Nat := if b then 1 else 0
def regE (s : E) (a : Nat) : Nat := if a = 0 then b2n (s.cd == 1) else if a = 4 then s.cd else if a = 8 then s.hd else if a = 12 then s.mv else if a = 16 then b2n s.ak else 0
def setE (s : E) (a v : Nat) : E := if a = 0 then goE s v else if a = 8 then (if s.cd ≠ 1 then { s with hd := v } else s) else if a = 16 then (if v = 1 then { s with ak := false } else s) else s
def readE (s : E) (a : Nat) : Nat := if accE s a = 0 then regE s a else 0
def writeE (s : E) (a v : Nat) : E := if accE s a = 0 then setE s a v else zeroE
/-- Are n bytes from the bus's place a on in a memory of p pages? -/
def inB (p a n : Nat) : Bool := decide (2147483648 ≤ a ∧ a - 2147483648 + n ≤ 4096 * p)
def takeE (s : E) (f : Nat → Nat) (p : Nat) : E :=
  if s.st = 64 then endE s 3 else if s.pl % 4 ≠ 0 ∨ inB p s.pl 16 = false then endE s 3
  else if numF f (s.pl - 2147483648 + 8) 4 = 0 ∨ 65536 < numF f (s.pl - 2147483648 + 8) 4 then endE { s with st := s.st + 1 } 3
  else { s with st := s.st + 1, hv := true, fr := numF f (s.pl - 2147483648) 4, tt := numF f (s.pl - 2147483648 + 4) 4, lf := numF f (s.pl - 2147483648 + 8) 4, nx := numF f (s.pl - 2147483648 + 12) 4 }
def burst (s : E) : Nat := if s.lf ≤ 64 then s.lf else 64
def canE (s : E) (p : Nat) : Bool := inB p s.fr (burst s) && inB p s.tt (burst s)
def m32 (x : Nat) : Nat := x % 4294967296
def onE (s : E) : E := { s with fr := m32 (s.fr + burst s), tt := m32 (s.tt + burst s), lf := s.lf - burst s, mv := m32 (s.mv + burst s) }
def moveE (s : E) (p : Nat) : E :=
  if canE s p = false then endE s 3 else if burst s < s.lf then onE s else if s.nx = 0 then endE (onE s) 2 else noOrd { onE s with pl := s.nx }
def cutF (f : Nat → Nat) (a n : Nat) : List Nat := (List.range n).map fun j => f (a + j)
def moveF (s : E) (f : Nat → Nat) (p : Nat) : Nat → Nat :=
  if canE s p = false then f else wroteF f (s.tt - 2147483648) (cutF f (s.fr - 2147483648) (burst s))
def goes (s : E) : Bool := mayE s && (s.cd == 1)
def tickE (s : E) (f : Nat → Nat) (p : Nat) : E := if goes s then (if s.hv then moveE s p else takeE s f p) else s
def tickF (s : E) (f : Nat → Nat) (p : Nat) : Nat → Nat := if goes s && s.hv then moveF s f p else f
theorem cutF_len (f : Nat → Nat) (a n : Nat) : (cutF f a n).length = n := by simp [cutF]
theorem cutF_small {f : Nat → Nat} (hf : ∀ x, f x < 256) (a n : Nat) : ∀ y, y ∈ cutF f a n → y < 256 := by
  intro y hy
  simp only [cutF, List.mem_map] at hy
  obtain ⟨j, _, rfl⟩ := hy
  exact hf _
theorem cutF_at {f : Nat → Nat} {a n j : Nat} (h : j < n) : (cutF f a n)[j]? = some (f (a + j)) := by simp [cutF, h]
theorem tickF_small {s : E} {f : Nat → Nat} {p : Nat} (hf : ∀ x, f x < 256) (x : Nat) : tickF s f p x < 256 := by
  unfold tickF moveF
  split
  · split
    · exact hf x
    · exact wroteF_lt hf _ (cutF_small hf _ _) x
  · exact hf x
end Go.Proofs.YtalcgipcephnnaaDoor
namespace Go.Proofs.YtalcgipcephnnaaDoor
open Go.RowKit
set_option linter.unusedVariables false

def E.cells (s : E) : Array Value := #[.int .u32 (s.cd : Nat), .int .u32 (s.hd : Nat), .int .u32 (s.pl : Nat), .int .u32 (s.st : Nat), .int .u32 (s.mv : Nat), .bool s.hv, .int .u32 (s.fr : Nat), .int .u32 (s.tt : Nat), .int .u32 (s.lf : Nat), .int .u32 (s.nx : Nat), .bool s.ak]
theorem E.at0 (s : E) : s.cells[0]? = some (.int .u32 (s.cd : Nat)) := rfl
theorem E.at1 (s : E) : s.cells[1]? = some (.int .u32 (s.hd : Nat)) := rfl
theorem E.at2 (s : E) : s.cells[2]? = some (.int .u32 (s.pl : Nat)) := rfl
theorem E.at3 (s : E) : s.cells[3]? = some (.int .u32 (s.st : Nat)) := rfl
theorem E.at4 (s : E) : s.cells[4]? = some (.int .u32 (s.mv : Nat)) := rfl
theorem E.at5 (s : E) : s.cells[5]? = some (.bool s.hv) := rfl
theorem E.at6 (s : E) : s.cells[6]? = some (.int .u32 (s.fr : Nat)) := rfl
theorem E.at7 (s : E) : s.cells[7]? = some (.int .u32 (s.tt : Nat)) := rfl
theorem E.at8 (s : E) : s.cells[8]? = some (.int .u32 (s.lf : Nat)) := rfl
theorem E.at9 (s : E) : s.cells[9]? = some (.int .u32 (s.nx : Nat)) := rfl
theorem E.at10 (s : E) : s.cells[10]? = some (.bool s.ak) := rfl
theorem size_u32e : (Tryd.prog.info? 22).map (·.size) = some 1 := by kernel_rfl
theorem size_boe : (Tryd.prog.info? 4).map (·.size) = some 1 := by kernel_rfl
theorem E.size (s : E) : s.cells.size = 11 := rfl
theorem e_one (s : E) : s.cells.all (·.oneCell') = true := by simp [E.cells, Value.oneCell']
theorem ret_agg {cs ds : Array Value} (h : cs = ds) : Ending.returned (.agg cs) = .returned (.agg ds) := by rw [h]
variable {ops : Array Oper} {rest : List Oper} {dst : Option Tmp} {ty : TypeId} {pos : String} {after : Array Edge} {a : Act} {w : World} {Q : Exit → Act → World → Prop} {x y : Operand} {b : Nat} {S : World → Prop} {K : Act → World → Prop} {gd : Option (Nat × Bool)}
theorem size_ep : (Tryd.prog.info? 29).map (·.size) = some 11 := by kernel_rfl
theorem zero_ep (w : World) : (zeroValue 29).run Tryd.prog w = .ok (.agg zeroE.cells) w :=
  (zero_of_info (P := Tryd.prog) (t := 29) (v := .agg zeroE.cells) (n := 11) (by kernel_rfl)).1 w
theorem bx_ep (N : Nat) (h : E) (hN : w.heap.size = N) (hx : a.eval x = .agg h.cells)
    (k : ∀ W, RowAt W N h.cells 29 → Below N w W → Hid (W.heap.size = N + 1) → wpList Tryd.prog ops Q rest (a.put dst (.pointer (some ⟨N, 0, none⟩))) W) :
    wpList Tryd.prog ops Q (⟨dst, .box 29 x, ty, pos, after, none⟩ :: rest) a w := op_box N hN h.cells hx k
theorem al_ep (N : Nat) (hN : w.heap.size = N)
    (k : ∀ W, RowAt W N zeroE.cells 29 → Below N w W → Hid (W.heap.size = N + 1) → wpList Tryd.prog ops Q rest (a.put dst (.pointer (some ⟨N, 0, none⟩))) W) :
    wpList Tryd.prog ops Q (⟨dst, .alloc 29, ty, pos, after, none⟩ :: rest) a w := op_alloc N hN zeroE.cells zero_ep k
theorem ld_ep (b : Nat) (h : E) (hr : RowAt w b h.cells 29) (hx : a.eval x = .pointer (some ⟨b, 0, none⟩)) (hw : Region.wanted ⟨dst, .load 29 x, ty, pos, after, gd⟩ (yielded ops a.tmps) = true)
    (k : wpList Tryd.prog ops Q rest (a.put dst (.agg h.cells)) w) : wpList Tryd.prog ops Q (⟨dst, .load 29 x, ty, pos, after, gd⟩ :: rest) a w :=
  BigFrame.wpList_want hw fun K hK => wp_load_row 29 x rfl b hx _ h.cells (0, 0) _ hr Tryd.underlying29 rfl size_ep (hK _ _ k)
theorem st_ep (b : Nat) (old h : E) (hr : RowAt w b old.cells 29) (hx : a.eval x = .pointer (some ⟨b, 0, none⟩)) (hy : a.eval y = .agg h.cells)
    (k : ∀ W, RowAt W b h.cells 29 → Only b w W → wpList Tryd.prog ops Q rest (a.put dst undef) W) : wpList Tryd.prog ops Q (⟨dst, .store 29 x y, ty, pos, after, none⟩ :: rest) a w :=
  op_store b hx h.cells hy old.cells _ hr size_ep rfl (e_one h) k
theorem y_ep (b : Nat) (h : E) (hS : ∀ V, S V → RowAt V b h.cells 29) (hx : a.eval x = .pointer (some ⟨b, 0, none⟩)) (hw : Region.wanted ⟨dst, .load 29 x, ty, pos, after, gd⟩ (yielded ops a.tmps) = true) :
    YieldsIf Tryd.prog ops S ⟨dst, .load 29 x, ty, pos, after, gd⟩ (.agg h.cells) a := by
  rcases y_load (ops := ops) (P := Tryd.prog) (t := 29) (dst := dst) (ty := ty) (after := after) (a := a) (x := x) (pos := pos) (S := S) b h.cells _ hS _ Tryd.underlying29 rfl size_ep hx with ⟨_, h2⟩ | ⟨h1, _⟩
  · exact .inl ⟨hw, fun V hV => h2 V hV⟩
  · simp [Region.wanted] at h1
theorem s_ep (b : Nat) (old h : E) (hr : RowAt w b old.cells 29) (hx : a.eval x = .pointer (some ⟨b, 0, none⟩)) (hy : a.eval y = .agg h.cells)
    (k : ∀ W, RowAt W b h.cells 29 → Only b w W → K (a.put dst undef) W) :
    Oper.wp Tryd.prog ⟨dst, .store 29 x y, ty, pos, after, none⟩ a w K Q :=
  s_store b hx h.cells hy old.cells _ hr size_ep rfl (e_one h) k
theorem size_er : (Tryd.prog.info? 24).map (·.size) = some 11 := by kernel_rfl
theorem zero_er (w : World) : (zeroValue 24).run Tryd.prog w = .ok (.agg zeroE.cells) w :=
  (zero_of_info (P := Tryd.prog) (t := 24) (v := .agg zeroE.cells) (n := 11) (by kernel_rfl)).1 w
theorem bx_er (N : Nat) (h : E) (hN : w.heap.size = N) (hx : a.eval x = .agg h.cells)
    (k : ∀ W, RowAt W N h.cells 24 → Below N w W → Hid (W.heap.size = N + 1) → wpList Tryd.prog ops Q rest (a.put dst (.pointer (some ⟨N, 0, none⟩))) W) :
    wpList Tryd.prog ops Q (⟨dst, .box 24 x, ty, pos, after, none⟩ :: rest) a w := op_box N hN h.cells hx k
theorem al_er (N : Nat) (hN : w.heap.size = N)
    (k : ∀ W, RowAt W N zeroE.cells 24 → Below N w W → Hid (W.heap.size = N + 1) → wpList Tryd.prog ops Q rest (a.put dst (.pointer (some ⟨N, 0, none⟩))) W) :
    wpList Tryd.prog ops Q (⟨dst, .alloc 24, ty, pos, after, none⟩ :: rest) a w := op_alloc N hN zeroE.cells zero_er k
theorem ld_er (b : Nat) (h : E) (hr : RowAt w b h.cells 24) (hx : a.eval x = .pointer (some ⟨b, 0, none⟩)) (hw : Region.wanted ⟨dst, .load 24 x, ty, pos, after, gd⟩ (yielded ops a.tmps) = true)
    (k : wpList Tryd.prog ops Q rest (a.put dst (.agg h.cells)) w) : wpList Tryd.prog ops Q (⟨dst, .load 24 x, ty, pos, after, gd⟩ :: rest) a w :=
  BigFrame.wpList_want hw fun K hK => wp_load_row 24 x rfl b hx _ h.cells (0, 0) _ hr Tryd.underlying24 rfl size_er (hK _ _ k)
theorem st_er (b : Nat) (old h : E) (hr : RowAt w b old.cells 24) (hx : a.eval x = .pointer (some ⟨b, 0, none⟩)) (hy : a.eval y = .agg h.cells)
    (k : ∀ W, RowAt W b h.cells 24 → Only b w W → wpList Tryd.prog ops Q rest (a.put dst undef) W) : wpList Tryd.prog ops Q (⟨dst, .store 24 x y, ty, pos, after, none⟩ :: rest) a w :=
  op_store b hx h.cells hy old.cells _ hr size_er rfl (e_one h) k
theorem y_er (b : Nat) (h : E) (hS : ∀ V, S V → RowAt V b h.cells 24) (hx : a.eval x = .pointer (some ⟨b, 0, none⟩)) (hw : Region.wanted ⟨dst, .load 24 x, ty, pos, after, gd⟩ (yielded ops a.tmps) = true) :
    YieldsIf Tryd.prog ops S ⟨dst, .load 24 x, ty, pos, after, gd⟩ (.agg h.cells) a := by
  rcases y_load (ops := ops) (P := Tryd.prog) (t := 24) (dst := dst) (ty := ty) (after := after) (a := a) (x := x) (pos := pos) (S := S) b h.cells _ hS _ Tryd.underlying24 rfl size_er hx with ⟨_, h2⟩ | ⟨h1, _⟩
  · exact .inl ⟨hw, fun V hV => h2 V hV⟩
  · simp [Region.wanted] at h1
theorem s_er (b : Nat) (old h : E) (hr : RowAt w b old.cells 24) (hx : a.eval x = .pointer (some ⟨b, 0, none⟩)) (hy : a.eval y = .agg h.cells)
    (k : ∀ W, RowAt W b h.cells 24 → Only b w W → K (a.put dst undef) W) :
    Oper.wp Tryd.prog ⟨dst, .store 24 x y, ty, pos, after, none⟩ a w K Q :=
  s_store b hx h.cells hy old.cells _ hr size_er rfl (e_one h) k
theorem ld_ecd (b : Nat) (h : E) (t' : TypeId) (hr : RowAt w b h.cells t') (hx : a.eval x = .pointer (some ⟨b, 0, none⟩))
    (k : wpList Tryd.prog ops Q rest (a.put dst (.int .u32 (h.cd : Nat))) w) : wpList Tryd.prog ops Q (⟨dst, .load 22 x, ty, pos, after, none⟩ :: rest) a w :=
  op_load_cell b 0 hx h.cells _ _ hr rfl _ Tryd.underlying22 rfl k
theorem st_ecd (b : Nat) (h : E) (n : Nat) (t' : TypeId) (hr : RowAt w b h.cells t') (hx : a.eval x = .pointer (some ⟨b, 0, none⟩)) (hy : a.eval y = .int .u32 (n : Nat))
    (k : ∀ W, RowAt W b ({ h with cd := n } : E).cells t' → Only b w W → wpList Tryd.prog ops Q rest (a.put dst undef) W) : wpList Tryd.prog ops Q (⟨dst, .store 22 x y, ty, pos, after, none⟩ :: rest) a w :=
  op_store_cell b 0 hx _ hy h.cells _ _ hr size_u32e (by show 0 < 11; decide) rfl rfl k
theorem y_ecd (b : Nat) (h : E) (t' : TypeId) (hS : ∀ V, S V → RowAt V b h.cells t') (hx : a.eval x = .pointer (some ⟨b, 0, none⟩)) :
    YieldsIf Tryd.prog ops S ⟨dst, .load 22 x, ty, pos, after, none⟩ (.int .u32 (h.cd : Nat)) a := y_cell b 0 _ (fun V hV => ((hS V hV).cell 0).trans rfl) _ Tryd.underlying22 rfl hx
theorem ld_ehd (b : Nat) (h : E) (t' : TypeId) (hr : RowAt w b h.cells t') (hx : a.eval x = .pointer (some ⟨b, 1, none⟩))
    (k : wpList Tryd.prog ops Q rest (a.put dst (.int .u32 (h.hd : Nat))) w) : wpList Tryd.prog ops Q (⟨dst, .load 22 x, ty, pos, after, none⟩ :: rest) a w :=
  op_load_cell b 1 hx h.cells _ _ hr rfl _ Tryd.underlying22 rfl k
theorem st_ehd (b : Nat) (h : E) (n : Nat) (t' : TypeId) (hr : RowAt w b h.cells t') (hx : a.eval x = .pointer (some ⟨b, 1, none⟩)) (hy : a.eval y = .int .u32 (n : Nat))
    (k : ∀ W, RowAt W b ({ h with hd := n } : E).cells t' → Only b w W → wpList Tryd.prog ops Q rest (a.put dst undef) W) : wpList Tryd.prog ops Q (⟨dst, .store 22 x y, ty, pos, after, none⟩ :: rest) a w :=
  op_store_cell b 1 hx _ hy h.cells _ _ hr size_u32e (by show 1 < 11; decide) rfl rfl k
theorem y_ehd (b : Nat) (h : E) (t' : TypeId) (hS : ∀ V, S V → RowAt V b h.cells t') (hx : a.eval x = .pointer (some ⟨b, 1, none⟩)) :
    YieldsIf Tryd.prog ops S ⟨dst, .load 22 x, ty, pos, after, none⟩ (.int .u32 (h.hd : Nat)) a := y_cell b 1 _ (fun V hV => ((hS V hV).cell 1).trans rfl) _ Tryd.underlying22 rfl hx
theorem ld_epl (b : Nat) (h : E) (t' : TypeId) (hr : RowAt w b h.cells t') (hx : a.eval x = .pointer (some ⟨b, 2, none⟩))
    (k : wpList Tryd.prog ops Q rest (a.put dst (.int .u32 (h.pl : Nat))) w) : wpList Tryd.prog ops Q (⟨dst, .load 22 x, ty, pos, after, none⟩ :: rest) a w :=
  op_load_cell b 2 hx h.cells _ _ hr rfl _ Tryd.underlying22 rfl k
theorem st_epl (b : Nat) (h : E) (n : Nat) (t' : TypeId) (hr : RowAt w b h.cells t') (hx : a.eval x = .pointer (some ⟨b, 2, none⟩)) (hy : a.eval y = .int .u32 (n : Nat))
    (k : ∀ W, RowAt W b ({ h with pl := n } : E).cells t' → Only b w W → wpList Tryd.prog ops Q rest (a.put dst undef) W) : wpList Tryd.prog ops Q (⟨dst, .store 22 x y, ty, pos, after, none⟩ :: rest) a w :=
  op_store_cell b 2 hx _ hy h.cells _ _ hr size_u32e (by show 2 < 11; decide) rfl rfl k
theorem y_epl (b : Nat) (h : E) (t' : TypeId) (hS : ∀ V, S V → RowAt V b h.cells t') (hx : a.eval x = .pointer (some ⟨b, 2, none⟩)) :
    YieldsIf Tryd.prog ops S ⟨dst, .load 22 x, ty, pos, after, none⟩ (.int .u32 (h.pl : Nat)) a := y_cell b 2 _ (fun V hV => ((hS V hV).cell 2).trans rfl) _ Tryd.underlying22 rfl hx
theorem ld_est (b : Nat) (h : E) (t' : TypeId) (hr : RowAt w b h.cells t') (hx : a.eval x = .pointer (some ⟨b, 3, none⟩))
    (k : wpList Tryd.prog ops Q rest (a.put dst (.int .u32 (h.st : Nat))) w) : wpList Tryd.prog ops Q (⟨dst, .load 22 x, ty, pos, after, none⟩ :: rest) a w :=
  op_load_cell b 3 hx h.cells _ _ hr rfl _ Tryd.underlying22 rfl k
theorem st_est (b : Nat) (h : E) (n : Nat) (t' : TypeId) (hr : RowAt w b h.cells t') (hx : a.eval x = .pointer (some ⟨b, 3, none⟩)) (hy : a.eval y = .int .u32 (n : Nat))
    (k : ∀ W, RowAt W b ({ h with st := n } : E).cells t' → Only b w W → wpList Tryd.prog ops Q rest (a.put dst undef) W) : wpList Tryd.prog ops Q (⟨dst, .store 22 x y, ty, pos, after, none⟩ :: rest) a w :=
  op_store_cell b 3 hx _ hy h.cells _ _ hr size_u32e (by show 3 < 11; decide) rfl rfl k
theorem y_est (b : Nat) (h : E) (t' : TypeId) (hS : ∀ V, S V → RowAt V b h.cells t') (hx : a.eval x = .pointer (some ⟨b, 3, none⟩)) :
    YieldsIf Tryd.prog ops S ⟨dst, .load 22 x, ty, pos, after, none⟩ (.int .u32 (h.st : Nat)) a := y_cell b 3 _ (fun V hV => ((hS V hV).cell 3).trans rfl) _ Tryd.underlying22 rfl hx
theorem ld_emv (b : Nat) (h : E) (t' : TypeId) (hr : RowAt w b h.cells t') (hx : a.eval x = .pointer (some ⟨b, 4, none⟩))
    (k : wpList Tryd.prog ops Q rest (a.put dst (.int .u32 (h.mv : Nat))) w) : wpList Tryd.prog ops Q (⟨dst, .load 22 x, ty, pos, after, none⟩ :: rest) a w :=
  op_load_cell b 4 hx h.cells _ _ hr rfl _ Tryd.underlying22 rfl k
theorem st_emv (b : Nat) (h : E) (n : Nat) (t' : TypeId) (hr : RowAt w b h.cells t') (hx : a.eval x = .pointer (some ⟨b, 4, none⟩)) (hy : a.eval y = .int .u32 (n : Nat))
    (k : ∀ W, RowAt W b ({ h with mv := n } : E).cells t' → Only b w W → wpList Tryd.prog ops Q rest (a.put dst undef) W) : wpList Tryd.prog ops Q (⟨dst, .store 22 x y, ty, pos, after, none⟩ :: rest) a w :=
  op_store_cell b 4 hx _ hy h.cells _ _ hr size_u32e (by show 4 < 11; decide) rfl rfl k
theorem y_emv (b : Nat) (h : E) (t' : TypeId) (hS : ∀ V, S V → RowAt V b h.cells t') (hx : a.eval x = .pointer (some ⟨b, 4, none⟩)) :
    YieldsIf Tryd.prog ops S ⟨dst, .load 22 x, ty, pos, after, none⟩ (.int .u32 (h.mv : Nat)) a := y_cell b 4 _ (fun V hV => ((hS V hV).cell 4).trans rfl) _ Tryd.underlying22 rfl hx
theorem ld_ehv (b : Nat) (h : E) (t' : TypeId) (hr : RowAt w b h.cells t') (hx : a.eval x = .pointer (some ⟨b, 5, none⟩))
    (k : wpList Tryd.prog ops Q rest (a.put dst (.bool h.hv)) w) : wpList Tryd.prog ops Q (⟨dst, .load 4 x, ty, pos, after, none⟩ :: rest) a w :=
  op_load_cell b 5 hx h.cells _ _ hr rfl _ Tryd.underlying4 rfl k
theorem st_ehv (b : Nat) (h : E) (n : Bool) (t' : TypeId) (hr : RowAt w b h.cells t') (hx : a.eval x = .pointer (some ⟨b, 5, none⟩)) (hy : a.eval y = .bool n)
    (k : ∀ W, RowAt W b ({ h with hv := n } : E).cells t' → Only b w W → wpList Tryd.prog ops Q rest (a.put dst undef) W) : wpList Tryd.prog ops Q (⟨dst, .store 4 x y, ty, pos, after, none⟩ :: rest) a w :=
  op_store_cell b 5 hx _ hy h.cells _ _ hr size_boe (by show 5 < 11; decide) rfl rfl k
theorem y_ehv (b : Nat) (h : E) (t' : TypeId) (hS : ∀ V, S V → RowAt V b h.cells t') (hx : a.eval x = .pointer (some ⟨b, 5, none⟩)) :
    YieldsIf Tryd.prog ops S ⟨dst, .load 4 x, ty, pos, after, none⟩ (.bool h.hv) a := y_cell b 5 _ (fun V hV => ((hS V hV).cell 5).trans rfl) _ Tryd.underlying4 rfl hx
theorem ld_efr (b : Nat) (h : E) (t' : TypeId) (hr : RowAt w b h.cells t') (hx : a.eval x = .pointer (some ⟨b, 6, none⟩))
    (k : wpList Tryd.prog ops Q rest (a.put dst (.int .u32 (h.fr : Nat))) w) : wpList Tryd.prog ops Q (⟨dst, .load 22 x, ty, pos, after, none⟩ :: rest) a w :=
  op_load_cell b 6 hx h.cells _ _ hr rfl _ Tryd.underlying22 rfl k
theorem st_efr (b : Nat) (h : E) (n : Nat) (t' : TypeId) (hr : RowAt w b h.cells t') (hx : a.eval x = .pointer (some ⟨b, 6, none⟩)) (hy : a.eval y = .int .u32 (n : Nat))
    (k : ∀ W, RowAt W b ({ h with fr := n } : E).cells t' → Only b w W → wpList Tryd.prog ops Q rest (a.put dst undef) W) : wpList Tryd.prog ops Q (⟨dst, .store 22 x y, ty, pos, after, none⟩ :: rest) a w :=
  op_store_cell b 6 hx _ hy h.cells _ _ hr size_u32e (by show 6 < 11; decide) rfl rfl k
theorem y_efr (b : Nat) (h : E) (t' : TypeId) (hS : ∀ V, S V → RowAt V b h.cells t') (hx : a.eval x = .pointer (some ⟨b, 6, none⟩)) :
    YieldsIf Tryd.prog ops S ⟨dst, .load 22 x, ty, pos, after, none⟩ (.int .u32 (h.fr : Nat)) a := y_cell b 6 _ (fun V hV => ((hS V hV).cell 6).trans rfl) _ Tryd.underlying22 rfl hx
theorem ld_ett (b : Nat) (h : E) (t' : TypeId) (hr : RowAt w b h.cells t') (hx : a.eval x = .pointer (some ⟨b, 7, none⟩))
    (k : wpList Tryd.prog ops Q rest (a.put dst (.int .u32 (h.tt : Nat))) w) : wpList Tryd.prog ops Q (⟨dst, .load 22 x, ty, pos, after, none⟩ :: rest) a w :=
  op_load_cell b 7 hx h.cells _ _ hr rfl _ Tryd.underlying22 rfl k
theorem st_ett (b : Nat) (h : E) (n : Nat) (t' : TypeId) (hr : RowAt w b h.cells t') (hx : a.eval x = .pointer (some ⟨b, 7, none⟩)) (hy : a.eval y = .int .u32 (n : Nat))
    (k : ∀ W, RowAt W b ({ h with tt := n } : E).cells t' → Only b w W → wpList Tryd.prog ops Q rest (a.put dst undef) W) : wpList Tryd.prog ops Q (⟨dst, .store 22 x y, ty, pos, after, none⟩ :: rest) a w :=
  op_store_cell b 7 hx _ hy h.cells _ _ hr size_u32e (by show 7 < 11; decide) rfl rfl k
theorem y_ett (b : Nat) (h : E) (t' : TypeId) (hS : ∀ V, S V → RowAt V b h.cells t') (hx : a.eval x = .pointer (some ⟨b, 7, none⟩)) :
    YieldsIf Tryd.prog ops S ⟨dst, .load 22 x, ty, pos, after, none⟩ (.int .u32 (h.tt : Nat)) a := y_cell b 7 _ (fun V hV => ((hS V hV).cell 7).trans rfl) _ Tryd.underlying22 rfl hx
theorem ld_elf (b : Nat) (h : E) (t' : TypeId) (hr : RowAt w b h.cells t') (hx : a.eval x = .pointer (some ⟨b, 8, none⟩))
    (k : wpList Tryd.prog ops Q rest (a.put dst (.int .u32 (h.lf : Nat))) w) : wpList Tryd.prog ops Q (⟨dst, .load 22 x, ty, pos, after, none⟩ :: rest) a w :=
  op_load_cell b 8 hx h.cells _ _ hr rfl _ Tryd.underlying22 rfl k
theorem st_elf (b : Nat) (h : E) (n : Nat) (t' : TypeId) (hr : RowAt w b h.cells t') (hx : a.eval x = .pointer (some ⟨b, 8, none⟩)) (hy : a.eval y = .int .u32 (n : Nat))
    (k : ∀ W, RowAt W b ({ h with lf := n } : E).cells t' → Only b w W → wpList Tryd.prog ops Q rest (a.put dst undef) W) : wpList Tryd.prog ops Q (⟨dst, .store 22 x y, ty, pos, after, none⟩ :: rest) a w :=
  op_store_cell b 8 hx _ hy h.cells _ _ hr size_u32e (by show 8 < 11; decide) rfl rfl k
theorem y_elf (b : Nat) (h : E) (t' : TypeId) (hS : ∀ V, S V → RowAt V b h.cells t') (hx : a.eval x = .pointer (some ⟨b, 8, none⟩)) :
    YieldsIf Tryd.prog ops S ⟨dst, .load 22 x, ty, pos, after, none⟩ (.int .u32 (h.lf : Nat)) a := y_cell b 8 _ (fun V hV => ((hS V hV).cell 8).trans rfl) _ Tryd.underlying22 rfl hx
theorem ld_enx (b : Nat) (h : E) (t' : TypeId) (hr : RowAt w b h.cells t') (hx : a.eval x = .pointer (some ⟨b, 9, none⟩))
    (k : wpList Tryd.prog ops Q rest (a.put dst (.int .u32 (h.nx : Nat))) w) : wpList Tryd.prog ops Q (⟨dst, .load 22 x, ty, pos, after, none⟩ :: rest) a w :=
  op_load_cell b 9 hx h.cells _ _ hr rfl _ Tryd.underlying22 rfl k
theorem st_enx (b : Nat) (h : E) (n : Nat) (t' : TypeId) (hr : RowAt w b h.cells t') (hx : a.eval x = .pointer (some ⟨b, 9, none⟩)) (hy : a.eval y = .int .u32 (n : Nat))
    (k : ∀ W, RowAt W b ({ h with nx := n } : E).cells t' → Only b w W → wpList Tryd.prog ops Q rest (a.put dst undef) W) : wpList Tryd.prog ops Q (⟨dst, .store 22 x y, ty, pos, after, none⟩ :: rest) a w :=
  op_store_cell b 9 hx _ hy h.cells _ _ hr size_u32e (by show 9 < 11; decide) rfl rfl k
theorem y_enx (b : Nat) (h : E) (t' : TypeId) (hS : ∀ V, S V → RowAt V b h.cells t') (hx : a.eval x = .pointer (some ⟨b, 9, none⟩)) :
    YieldsIf Tryd.prog ops S ⟨dst, .load 22 x, ty, pos, after, none⟩ (.int .u32 (h.nx : Nat)) a := y_cell b 9 _ (fun V hV => ((hS V hV).cell 9).trans rfl) _ Tryd.underlying22 rfl hx
theorem ld_eak (b : Nat) (h : E) (t' : TypeId) (hr : RowAt w b h.cells t') (hx : a.eval x = .pointer (some ⟨b, 10, none⟩))
    (k : wpList Tryd.prog ops Q rest (a.put dst (.bool h.ak)) w) : wpList Tryd.prog ops Q (⟨dst, .load 4 x, ty, pos, after, none⟩ :: rest) a w :=
  op_load_cell b 10 hx h.cells _ _ hr rfl _ Tryd.underlying4 rfl k
theorem st_eak (b : Nat) (h : E) (n : Bool) (t' : TypeId) (hr : RowAt w b h.cells t') (hx : a.eval x = .pointer (some ⟨b, 10, none⟩)) (hy : a.eval y = .bool n)
    (k : ∀ W, RowAt W b ({ h with ak := n } : E).cells t' → Only b w W → wpList Tryd.prog ops Q rest (a.put dst undef) W) : wpList Tryd.prog ops Q (⟨dst, .store 4 x y, ty, pos, after, none⟩ :: rest) a w :=
  op_store_cell b 10 hx _ hy h.cells _ _ hr size_boe (by show 10 < 11; decide) rfl rfl k
theorem y_eak (b : Nat) (h : E) (t' : TypeId) (hS : ∀ V, S V → RowAt V b h.cells t') (hx : a.eval x = .pointer (some ⟨b, 10, none⟩)) :
    YieldsIf Tryd.prog ops S ⟨dst, .load 4 x, ty, pos, after, none⟩ (.bool h.ak) a := y_cell b 10 _ (fun V hV => ((hS V hV).cell 10).trans rfl) _ Tryd.underlying4 rfl hx
/-- An order's four words. -/
def ordV (g : Nat → Nat) : Array Value := #[.int .u32 (g 0 : Nat), .int .u32 (g 1 : Nat), .int .u32 (g 2 : Nat), .int .u32 (g 3 : Nat)]
theorem ord_at (g : Nat → Nat) (i : Nat) (hi : i < 4) : (ordV g)[i]? = some (.int .u32 (g i : Nat)) := by
  rcases i with _ | _ | _ | _ | i
  all_goals first | rfl | omega
theorem ord_set (g : Nat → Nat) (i v : Nat) (hi : i < 4) : (ordV g).setIfInBounds i (.int .u32 (v : Nat)) = ordV (upd g i v) := by
  rcases i with _ | _ | _ | _ | i
  all_goals first | rfl | omega
theorem size_od : (Tryd.prog.info? 132).map (·.size) = some 4 := by kernel_rfl
theorem od_one (g : Nat → Nat) : (ordV g).all (·.oneCell') = true := by simp [ordV, Value.oneCell']
theorem zero_od (w : World) : (zeroValue 132).run Tryd.prog w = .ok (.agg (ordV (fun _ => 0))) w :=
  (zero_of_info (P := Tryd.prog) (t := 132) (v := .agg (ordV (fun _ => 0))) (n := 4) (by kernel_rfl)).1 w
theorem al_od (N : Nat) (hN : w.heap.size = N)
    (k : ∀ W, RowAt W N (ordV (fun _ => 0)) 132 → Below N w W → Hid (W.heap.size = N + 1) → wpList Tryd.prog ops Q rest (a.put dst (.pointer (some ⟨N, 0, none⟩))) W) :
    wpList Tryd.prog ops Q (⟨dst, .alloc 132, ty, pos, after, none⟩ :: rest) a w := op_alloc N hN _ zero_od k
theorem ld_od (b : Nat) (h : Nat → Nat) (hr : RowAt w b (ordV h) 132) (hx : a.eval x = .pointer (some ⟨b, 0, none⟩))
    (k : wpList Tryd.prog ops Q rest (a.put dst (.agg (ordV h))) w) : wpList Tryd.prog ops Q (⟨dst, .load 132 x, ty, pos, after, none⟩ :: rest) a w :=
  op_load b hx (ordV h) _ hr _ Tryd.underlying132 rfl size_od k
theorem st_od (b : Nat) (old h : Nat → Nat) (hr : RowAt w b (ordV old) 132) (hx : a.eval x = .pointer (some ⟨b, 0, none⟩)) (hy : a.eval y = .agg (ordV h))
    (k : ∀ W, RowAt W b (ordV h) 132 → Only b w W → wpList Tryd.prog ops Q rest (a.put dst undef) W) : wpList Tryd.prog ops Q (⟨dst, .store 132 x y, ty, pos, after, none⟩ :: rest) a w :=
  op_store b hx (ordV h) hy (ordV old) _ hr size_od rfl (od_one h) k
theorem st_oi (b i : Nat) (h : Nat → Nat) (v : Nat) (hi : i < 4) (hr : RowAt w b (ordV h) 132) (hx : a.eval x = .pointer (some ⟨b, i, none⟩)) (hy : a.eval y = .int .u32 (v : Nat))
    (k : ∀ W, RowAt W b (ordV (upd h i v)) 132 → Only b w W → wpList Tryd.prog ops Q rest (a.put dst undef) W) : wpList Tryd.prog ops Q (⟨dst, .store 22 x y, ty, pos, after, none⟩ :: rest) a w :=
  op_store_cell b i hx _ hy (ordV h) _ _ hr size_u32e (by show i < 4; exact hi) rfl (ord_set h i v hi) k
def errP (n : Nat) : Value := if n = 0 then .nilIface else .iface 69 (.int .i64 (n : Int))
theorem results_cell_one {P : Program} {fn : Func} {p u : Tmp} {ty : TypeId} (h : fn.results = #[.cell p ty, .tmp u]) (tmps : Array Value) (w : World) (g : Nat) (t : TypeId) (cs : Array Value) (d : TypeDesc)
    (hp : tmps.getD p undef = .pointer (some ⟨g, 0, none⟩)) (hg : RowAt w g cs t) (hu : P.underlying ty = some d) (hd : d.isRow = true) (hi : (P.info? ty).map (·.size) = some cs.size) :
    (results fn tmps).run P w = .ok (.tuple #[.agg cs, tmps.getD u undef]) w := by
  have e : tmps[p]?.getD undef = .pointer (some ⟨g, 0, none⟩) := by simpa using hp
  have l := run_loadVar_row w g t ty cs (0, 0) d hg hu (by cases d <;> first | rfl | cases hd) hi
  simp [results, h, e, asAddr, l]
end Go.Proofs.YtalcgipcephnnaaDoor
namespace Go.Proofs.YtalcgipcephnnaaDoor
open Go.RowKit
set_option linter.unusedVariables false

def eqE (s t : E) : Bool := (s.cd == t.cd) && ((s.hd == t.hd) && ((s.pl == t.pl) && ((s.st == t.st) && ((s.mv == t.mv) && ((s.hv == t.hv) && ((s.fr == t.fr) && ((s.tt == t.tt) && ((s.lf == t.lf) && ((s.nx == t.nx) && (s.ak == t.ak))))))))))
theorem castq (a b : Nat) : ((a : Int) == (b : Int)) = (a == b) := by
  by_cases h : a = b
  · subst h; simp
  · rw [beq_false_of_ne h, beq_false_of_ne (by omega)]
theorem eqE_self (s : E) : eqE s s = true := by simp [eqE]
theorem eqE_iff {s t : E} : eqE s t = true ↔ s = t := by
  constructor
  · intro h
    cases s; cases t
    simp [eqE] at h
    simp [h]
  · rintro rfl; exact eqE_self _
set_option maxHeartbeats 1000000 in
theorem eq_e (s t : E) (w : World) : (binOp .eql 29 (.agg s.cells) (.agg t.cells)).run Tryd.prog w = .ok (.bool (eqE s t)) w := by
  simp [go_sem, E.at0, E.at1, E.at2, E.at3, E.at4, E.at5, E.at6, E.at7, E.at8, E.at9, E.at10, castq]
  repeat' split
  all_goals simp [eqE, *]
set_option maxHeartbeats 1000000 in
theorem ne_e (s t : E) (w : World) : (binOp .neq 29 (.agg s.cells) (.agg t.cells)).run Tryd.prog w = .ok (.bool (!eqE s t)) w := by
  simp [go_sem, E.at0, E.at1, E.at2, E.at3, E.at4, E.at5, E.at6, E.at7, E.at8, E.at9, E.at10, castq]
  repeat' split
  all_goals simp [eqE, *]
theorem no_guard_e : Tryd.prog.eqGuardType Tryd.prog.depth 29 = false := by kernel_rfl
variable {ops : Array Oper} {rest : List Oper} {dst : Option Tmp} {ty t2 : TypeId} {after : Array Edge} {a : Act} {x y : Operand} {gd : Option (Nat × Bool)} {pos : String} {S : World → Prop} {w : World} {Q : Exit → Act → World → Prop}
theorem run_eqe (s t : E) (hx : a.eval x = .agg s.cells) (hy : a.eval y = .agg t.cells) (V : World) : (execOp a.eval ⟨dst, .binOp .eql 29 x y t2, ty, pos, after, gd⟩).run Tryd.prog V = .ok (.value (.bool (eqE s t))) V := by
  unfold execOp
  simp only [Sem.run_bind, hx, hy, run_eqGuard_agg V .eql 29 x y s.cells t.cells no_guard_e, eq_e s t, Result.andThen_ok, Sem.run_pure]
theorem y_eqe (s t : E) (hx : a.eval x = .agg s.cells) (hy : a.eval y = .agg t.cells) (hw : Region.wanted ⟨dst, .binOp .eql 29 x y t2, ty, pos, after, gd⟩ (yielded ops a.tmps) = true) :
    YieldsIf Tryd.prog ops S ⟨dst, .binOp .eql 29 x y t2, ty, pos, after, gd⟩ (.bool (eqE s t)) a :=
  .inl ⟨hw, fun V hV => run_eqe s t hx hy V⟩
theorem g_eqe (s t : E) (hx : a.eval x = .agg s.cells) (hy : a.eval y = .agg t.cells) (hw : Region.wanted ⟨dst, .binOp .eql 29 x y t2, ty, pos, after, gd⟩ (yielded ops a.tmps) = true)
    (k : wpList Tryd.prog ops Q rest (a.put dst (.bool (eqE s t))) w) : wpList Tryd.prog ops Q (⟨dst, .binOp .eql 29 x y t2, ty, pos, after, gd⟩ :: rest) a w :=
  BigFrame.wpList_want hw fun K hK => by
    unfold Oper.wp
    rw [run_eqe s t hx hy w, Oper.upon_value]
    exact hK _ _ k
theorem run_nee (s t : E) (hx : a.eval x = .agg s.cells) (hy : a.eval y = .agg t.cells) (V : World) : (execOp a.eval ⟨dst, .binOp .neq 29 x y t2, ty, pos, after, gd⟩).run Tryd.prog V = .ok (.value (.bool (!eqE s t))) V := by
  unfold execOp
  simp only [Sem.run_bind, hx, hy, run_eqGuard_agg V .neq 29 x y s.cells t.cells no_guard_e, ne_e s t, Result.andThen_ok, Sem.run_pure]
theorem y_nee (s t : E) (hx : a.eval x = .agg s.cells) (hy : a.eval y = .agg t.cells) (hw : Region.wanted ⟨dst, .binOp .neq 29 x y t2, ty, pos, after, gd⟩ (yielded ops a.tmps) = true) :
    YieldsIf Tryd.prog ops S ⟨dst, .binOp .neq 29 x y t2, ty, pos, after, gd⟩ (.bool (!eqE s t)) a :=
  .inl ⟨hw, fun V hV => run_nee s t hx hy V⟩
theorem g_nee (s t : E) (hx : a.eval x = .agg s.cells) (hy : a.eval y = .agg t.cells) (hw : Region.wanted ⟨dst, .binOp .neq 29 x y t2, ty, pos, after, gd⟩ (yielded ops a.tmps) = true)
    (k : wpList Tryd.prog ops Q rest (a.put dst (.bool (!eqE s t))) w) : wpList Tryd.prog ops Q (⟨dst, .binOp .neq 29 x y t2, ty, pos, after, gd⟩ :: rest) a w :=
  BigFrame.wpList_want hw fun K hK => by
    unfold Oper.wp
    rw [run_nee s t hx hy w, Oper.upon_value]
    exact hK _ _ k
end Go.Proofs.YtalcgipcephnnaaDoor
