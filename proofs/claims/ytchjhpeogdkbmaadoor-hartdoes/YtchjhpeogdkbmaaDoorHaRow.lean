/-
  A hart in a block of its own: its registers, its control registers, and what stores make of them.
-/
import Derived.Test.YtchjhpeogdkbmaaDoorOps
import Derived.Test.YtchjhpeogdkbmaaDoorHCsProg
import Derived.Test.YtchjhpeogdkbmaaDoorHaMath
import Derived.Deep.WholeRow
namespace Go.Proofs.YtchjhpeogdkbmaaDoor
open Go.RowKit
set_option linter.unusedVariables false

theorem size_hart : (Tryd.prog.info? 31).map (·.size) = some 42 := by kernel_rfl
theorem size_word : (Tryd.prog.info? 22).map (·.size) = some 1 := by kernel_rfl
theorem size_long : (Tryd.prog.info? 24).map (·.size) = some 1 := by kernel_rfl
theorem size_bool : (Tryd.prog.info? 4).map (·.size) = some 1 := by kernel_rfl
theorem h_one (h : H) : h.cells.all (·.oneCell') = true := by simp [H.cells, Value.oneCell']
theorem c_one (c : S8) : c.cells.all (·.oneCell') = true := by simp [S8.cells, Value.oneCell']
theorem RowAt.range {w : World} {b : Nat} {h : H} {t : TypeId} (hr : RowAt w b h.cells t) : w.rangeAt b 34 h.c.cells.toList := World.rangeAt_of_block hr 34 8
theorem RowAt.there {w : World} {b : Nat} {h : H} {t : TypeId} (hr : RowAt w b h.cells t) : w.there b 34 8 := fun j hj =>
  ⟨by rw [hr.cell, Array.getElem?_eq_getElem (show 34 + j < h.cells.size from by show 34 + j < 42; omega)]; rfl, hr.thaw _⟩
theorem RowAt.put_st {w : World} {b : Nat} {h : H} {t : TypeId} (hr : RowAt w b h.cells t) (p : Nat) : RowAt (w.setCell ⟨b, 34, none⟩ (.int .u32 (p : Nat))) b (H.cells ⟨h.pc, h.x, h.wt, ⟨p, h.c.en, h.c.ve, h.c.sc, h.c.ep, h.c.ca, h.c.va, h.c.ct⟩⟩) t := hr.put 34 _
theorem RowAt.put_en {w : World} {b : Nat} {h : H} {t : TypeId} (hr : RowAt w b h.cells t) (p : Nat) : RowAt (w.setCell ⟨b, 35, none⟩ (.int .u32 (p : Nat))) b (H.cells ⟨h.pc, h.x, h.wt, ⟨h.c.st, p, h.c.ve, h.c.sc, h.c.ep, h.c.ca, h.c.va, h.c.ct⟩⟩) t := hr.put 35 _
theorem RowAt.put_ve {w : World} {b : Nat} {h : H} {t : TypeId} (hr : RowAt w b h.cells t) (p : Nat) : RowAt (w.setCell ⟨b, 36, none⟩ (.int .u32 (p : Nat))) b (H.cells ⟨h.pc, h.x, h.wt, ⟨h.c.st, h.c.en, p, h.c.sc, h.c.ep, h.c.ca, h.c.va, h.c.ct⟩⟩) t := hr.put 36 _
theorem RowAt.put_sc {w : World} {b : Nat} {h : H} {t : TypeId} (hr : RowAt w b h.cells t) (p : Nat) : RowAt (w.setCell ⟨b, 37, none⟩ (.int .u32 (p : Nat))) b (H.cells ⟨h.pc, h.x, h.wt, ⟨h.c.st, h.c.en, h.c.ve, p, h.c.ep, h.c.ca, h.c.va, h.c.ct⟩⟩) t := hr.put 37 _
theorem RowAt.put_ep {w : World} {b : Nat} {h : H} {t : TypeId} (hr : RowAt w b h.cells t) (p : Nat) : RowAt (w.setCell ⟨b, 38, none⟩ (.int .u32 (p : Nat))) b (H.cells ⟨h.pc, h.x, h.wt, ⟨h.c.st, h.c.en, h.c.ve, h.c.sc, p, h.c.ca, h.c.va, h.c.ct⟩⟩) t := hr.put 38 _
theorem RowAt.put_ca {w : World} {b : Nat} {h : H} {t : TypeId} (hr : RowAt w b h.cells t) (p : Nat) : RowAt (w.setCell ⟨b, 39, none⟩ (.int .u32 (p : Nat))) b (H.cells ⟨h.pc, h.x, h.wt, ⟨h.c.st, h.c.en, h.c.ve, h.c.sc, h.c.ep, p, h.c.va, h.c.ct⟩⟩) t := hr.put 39 _
theorem RowAt.put_va {w : World} {b : Nat} {h : H} {t : TypeId} (hr : RowAt w b h.cells t) (p : Nat) : RowAt (w.setCell ⟨b, 40, none⟩ (.int .u32 (p : Nat))) b (H.cells ⟨h.pc, h.x, h.wt, ⟨h.c.st, h.c.en, h.c.ve, h.c.sc, h.c.ep, h.c.ca, p, h.c.ct⟩⟩) t := hr.put 40 _
theorem RowAt.put_ct {w : World} {b : Nat} {h : H} {t : TypeId} (hr : RowAt w b h.cells t) (p : Nat) : RowAt (w.setCell ⟨b, 41, none⟩ (.int .u64 (p : Nat))) b (H.cells ⟨h.pc, h.x, h.wt, ⟨h.c.st, h.c.en, h.c.ve, h.c.sc, h.c.ep, h.c.ca, h.c.va, p⟩⟩) t := hr.put 41 _
theorem RowAt.putC {w : World} {b : Nat} {h : H} {t : TypeId} (hr : RowAt w b h.cells t) (c : S8) : RowAt (w.setCells b 34 c.cells.toList) b (withC h c).cells t :=
  (((((((hr.put_st c.st).put_en c.en).put_ve c.ve).put_sc c.sc).put_ep c.ep).put_ca c.ca).put_va c.va).put_ct c.ct
theorem RowAt.putPc {w : World} {b : Nat} {h : H} {t : TypeId} (hr : RowAt w b h.cells t) (p : Nat) : RowAt (w.setCell ⟨b, 0, none⟩ (.int .u32 (p : Nat))) b (H.cells ⟨p, h.x, h.wt, h.c⟩) t := hr.put 0 _
theorem RowAt.putWt {w : World} {b : Nat} {h : H} {t : TypeId} (hr : RowAt w b h.cells t) (p : Bool) : RowAt (w.setCell ⟨b, 33, none⟩ (.bool p)) b (H.cells ⟨h.pc, h.x, p, h.c⟩) t := hr.put 33 _
theorem H.cell_x (h : H) (r : Nat) (hr : r < 32) : h.cells[1 + r]? = some (.int .u32 (h.x r : Nat)) := by
  rcases r with _ | _ | _ | _ | _ | _ | _ | _ | _ | _ | _ | _ | _ | _ | _ | _ | _ | _ | _ | _ | _ | _ | _ | _ | _ | _ | _ | _ | _ | _ | _ | _ | r
  all_goals first | rfl | omega
theorem H.set_x (h : H) (r v : Nat) (hr : r < 32) : h.cells.setIfInBounds (1 + r) (.int .u32 (v : Nat)) = (H.cells ⟨h.pc, setX h.x r v, h.wt, h.c⟩) := by
  rcases r with _ | _ | _ | _ | _ | _ | _ | _ | _ | _ | _ | _ | _ | _ | _ | _ | _ | _ | _ | _ | _ | _ | _ | _ | _ | _ | _ | _ | _ | _ | _ | _ | r
  all_goals first | rfl | omega
theorem RowAt.putX {w : World} {b : Nat} {h : H} {t : TypeId} (hr : RowAt w b h.cells t) (r v : Nat) (hr' : r < 32) : RowAt (w.setCell ⟨b, 1 + r, none⟩ (.int .u32 (v : Nat))) b (H.cells ⟨h.pc, setX h.x r v, h.wt, h.c⟩) t := by
  have := hr.put (1 + r) (.int .u32 (v : Nat))
  rwa [H.set_x h r v hr'] at this
/-- A block with two blocks behind it that came with it. -/
theorem RowAt.first (w : World) (cs : Array Value) (t : TypeId) (o : Obj) : RowAt ((w.alloc (.cells cs t)).alloc o) w.heap.size cs t := (RowAt.new w _ cs t rfl).al o
theorem RowAt.second (w : World) (cs : Array Value) (t : TypeId) (o : Obj) : RowAt ((w.alloc o).alloc (.cells cs t)) (w.heap.size + 1) cs t := RowAt.new _ _ cs t (by simp)
theorem RowAt.setR {w : World} {b : Nat} {old : Array Value} {t : TypeId} (hr : RowAt w b old t) (cs : Array Value) : RowAt (w.setRow b cs) b cs t := setRow_heap w b old cs t (0, 0) hr
theorem ret_agg {cs ds : Array Value} (h : cs = ds) : Ending.returned (.agg cs) = .returned (.agg ds) := by rw [h]

def zeroH : H := ⟨0, fun _ => 0, false, zeroS⟩
theorem zero_hart (w : World) : (zeroValue 31).run Tryd.prog w = .ok (.agg zeroH.cells) w :=
  (zero_of_info (P := Tryd.prog) (t := 31) (v := .agg zeroH.cells) (n := 42) (by kernel_rfl)).1 w
variable {ops : Array Oper} {rest : List Oper} {dst : Option Tmp} {ty : TypeId} {pos : String} {after : Array Edge} {a : Act} {w : World} {Q : Exit → Act → World → Prop} {x y : Operand} {b : Nat}
theorem bx_h (N : Nat) (h : H) (hN : w.heap.size = N) (hx : a.eval x = .agg h.cells)
    (k : ∀ W, RowAt W N h.cells 31 → Below N w W → Hid (W.heap.size = N + 1) → wpList Tryd.prog ops Q rest (a.put dst (.pointer (some ⟨N, 0, none⟩))) W) :
    wpList Tryd.prog ops Q (⟨dst, .box 31 x, ty, pos, after, none⟩ :: rest) a w := op_box N hN h.cells hx k
theorem al_h (N : Nat) (hN : w.heap.size = N)
    (k : ∀ W, RowAt W N zeroH.cells 31 → Below N w W → Hid (W.heap.size = N + 1) → wpList Tryd.prog ops Q rest (a.put dst (.pointer (some ⟨N, 0, none⟩))) W) :
    wpList Tryd.prog ops Q (⟨dst, .alloc 31, ty, pos, after, none⟩ :: rest) a w := op_alloc N hN zeroH.cells zero_hart k
theorem ld_h (b : Nat) (h : H) (hr : RowAt w b h.cells 31) (hx : a.eval x = .pointer (some ⟨b, 0, none⟩))
    (k : wpList Tryd.prog ops Q rest (a.put dst (.agg h.cells)) w) : wpList Tryd.prog ops Q (⟨dst, .load 31 x, ty, pos, after, none⟩ :: rest) a w :=
  op_load b hx h.cells _ hr _ Tryd.underlying31 rfl size_hart k
theorem st_h (b : Nat) (old h : H) (hr : RowAt w b old.cells 31) (hx : a.eval x = .pointer (some ⟨b, 0, none⟩)) (hy : a.eval y = .agg h.cells)
    (k : ∀ W, RowAt W b h.cells 31 → Only b w W → wpList Tryd.prog ops Q rest (a.put dst undef) W) : wpList Tryd.prog ops Q (⟨dst, .store 31 x y, ty, pos, after, none⟩ :: rest) a w :=
  op_store b hx h.cells hy old.cells _ hr size_hart rfl (h_one h) k
theorem ld_c (b : Nat) (h : H) (hr : RowAt w b h.cells 31) (hx : a.eval x = .pointer (some ⟨b, 34, none⟩))
    (k : wpList Tryd.prog ops Q rest (a.put dst (.agg h.c.cells)) w) : wpList Tryd.prog ops Q (⟨dst, .load 29 x, ty, pos, after, none⟩ :: rest) a w :=
  op_load_mid b 34 hx h.cells h.c.cells _ hr rfl _ Tryd.underlying29 rfl size_state k
theorem H.set_st (h : H) (p : Nat) : h.cells.setIfInBounds 34 (.int .u32 (p : Nat)) = H.cells ⟨h.pc, h.x, h.wt, ⟨p, h.c.en, h.c.ve, h.c.sc, h.c.ep, h.c.ca, h.c.va, h.c.ct⟩⟩ := rfl
theorem H.set_en (h : H) (p : Nat) : h.cells.setIfInBounds 35 (.int .u32 (p : Nat)) = H.cells ⟨h.pc, h.x, h.wt, ⟨h.c.st, p, h.c.ve, h.c.sc, h.c.ep, h.c.ca, h.c.va, h.c.ct⟩⟩ := rfl
theorem H.set_ve (h : H) (p : Nat) : h.cells.setIfInBounds 36 (.int .u32 (p : Nat)) = H.cells ⟨h.pc, h.x, h.wt, ⟨h.c.st, h.c.en, p, h.c.sc, h.c.ep, h.c.ca, h.c.va, h.c.ct⟩⟩ := rfl
theorem H.set_sc (h : H) (p : Nat) : h.cells.setIfInBounds 37 (.int .u32 (p : Nat)) = H.cells ⟨h.pc, h.x, h.wt, ⟨h.c.st, h.c.en, h.c.ve, p, h.c.ep, h.c.ca, h.c.va, h.c.ct⟩⟩ := rfl
theorem H.set_ep (h : H) (p : Nat) : h.cells.setIfInBounds 38 (.int .u32 (p : Nat)) = H.cells ⟨h.pc, h.x, h.wt, ⟨h.c.st, h.c.en, h.c.ve, h.c.sc, p, h.c.ca, h.c.va, h.c.ct⟩⟩ := rfl
theorem H.set_ca (h : H) (p : Nat) : h.cells.setIfInBounds 39 (.int .u32 (p : Nat)) = H.cells ⟨h.pc, h.x, h.wt, ⟨h.c.st, h.c.en, h.c.ve, h.c.sc, h.c.ep, p, h.c.va, h.c.ct⟩⟩ := rfl
theorem H.set_va (h : H) (p : Nat) : h.cells.setIfInBounds 40 (.int .u32 (p : Nat)) = H.cells ⟨h.pc, h.x, h.wt, ⟨h.c.st, h.c.en, h.c.ve, h.c.sc, h.c.ep, h.c.ca, p, h.c.ct⟩⟩ := rfl
theorem H.set_ct (h : H) (p : Nat) : h.cells.setIfInBounds 41 (.int .u64 (p : Nat)) = H.cells ⟨h.pc, h.x, h.wt, ⟨h.c.st, h.c.en, h.c.ve, h.c.sc, h.c.ep, h.c.ca, h.c.va, p⟩⟩ := rfl
theorem putAll_c (h : H) (c : S8) : putAll h.cells 34 c.cells.toList = (withC h c).cells := by
  show ((((((((h.cells.setIfInBounds 34 (.int .u32 (c.st : Nat))).setIfInBounds 35 (.int .u32 (c.en : Nat))).setIfInBounds 36 (.int .u32 (c.ve : Nat))).setIfInBounds 37 (.int .u32 (c.sc : Nat))).setIfInBounds 38 (.int .u32 (c.ep : Nat))).setIfInBounds 39 (.int .u32 (c.ca : Nat))).setIfInBounds 40 (.int .u32 (c.va : Nat))).setIfInBounds 41 (.int .u64 (c.ct : Nat))) = _
  rw [H.set_st, H.set_en, H.set_ve, H.set_sc, H.set_ep, H.set_ca, H.set_va, H.set_ct]
  rfl
theorem st_c (b : Nat) (h : H) (c : S8) (hr : RowAt w b h.cells 31) (hx : a.eval x = .pointer (some ⟨b, 34, none⟩)) (hy : a.eval y = .agg c.cells)
    (k : ∀ W, RowAt W b (withC h c).cells 31 → Only b w W → wpList Tryd.prog ops Q rest (a.put dst undef) W) : wpList Tryd.prog ops Q (⟨dst, .store 29 x y, ty, pos, after, none⟩ :: rest) a w :=
  op_store_mid b 34 hx c.cells hy h.cells _ _ hr size_state (by show 34 + 8 ≤ 42; decide) (c_one c) (putAll_c h c) k
theorem ld_pc (b : Nat) (h : H) (hr : RowAt w b h.cells 31) (hx : a.eval x = .pointer (some ⟨b, 0, none⟩))
    (k : wpList Tryd.prog ops Q rest (a.put dst (.int .u32 (h.pc : Nat))) w) : wpList Tryd.prog ops Q (⟨dst, .load 22 x, ty, pos, after, none⟩ :: rest) a w :=
  op_load_cell b 0 hx h.cells _ _ hr rfl _ Tryd.underlying22 rfl k
theorem st_pc (b : Nat) (h : H) (p : Nat) (hr : RowAt w b h.cells 31) (hx : a.eval x = .pointer (some ⟨b, 0, none⟩)) (hy : a.eval y = .int .u32 (p : Nat))
    (k : ∀ W, RowAt W b (H.cells ⟨p, h.x, h.wt, h.c⟩) 31 → Only b w W → wpList Tryd.prog ops Q rest (a.put dst undef) W) : wpList Tryd.prog ops Q (⟨dst, .store 22 x y, ty, pos, after, none⟩ :: rest) a w :=
  op_store_cell b 0 hx _ hy h.cells _ _ hr size_word (by show 0 < 42; decide) rfl rfl k
theorem ld_x (b r : Nat) (h : H) (hr' : r < 32) (hr : RowAt w b h.cells 31) (hx : a.eval x = .pointer (some ⟨b, 1 + r, none⟩))
    (k : wpList Tryd.prog ops Q rest (a.put dst (.int .u32 (h.x r : Nat))) w) : wpList Tryd.prog ops Q (⟨dst, .load 22 x, ty, pos, after, none⟩ :: rest) a w :=
  op_load_cell b (1 + r) hx h.cells _ _ hr (h.cell_x r hr') _ Tryd.underlying22 rfl k
theorem st_x (b r : Nat) (h : H) (p : Nat) (hr' : r < 32) (hr : RowAt w b h.cells 31) (hx : a.eval x = .pointer (some ⟨b, 1 + r, none⟩)) (hy : a.eval y = .int .u32 (p : Nat))
    (k : ∀ W, RowAt W b (H.cells ⟨h.pc, setX h.x r p, h.wt, h.c⟩) 31 → Only b w W → wpList Tryd.prog ops Q rest (a.put dst undef) W) : wpList Tryd.prog ops Q (⟨dst, .store 22 x y, ty, pos, after, none⟩ :: rest) a w :=
  op_store_cell b (1 + r) hx _ hy h.cells _ _ hr size_word (by show 1 + r < 42; omega) rfl (H.set_x h r p hr') k
theorem ld_ct (b : Nat) (h : H) (hr : RowAt w b h.cells 31) (hx : a.eval x = .pointer (some ⟨b, 41, none⟩))
    (k : wpList Tryd.prog ops Q rest (a.put dst (.int .u64 (h.c.ct : Nat))) w) : wpList Tryd.prog ops Q (⟨dst, .load 24 x, ty, pos, after, none⟩ :: rest) a w :=
  op_load_cell b 41 hx h.cells _ _ hr rfl _ Tryd.underlying24 rfl k
theorem st_ct (b : Nat) (h : H) (p : Nat) (hr : RowAt w b h.cells 31) (hx : a.eval x = .pointer (some ⟨b, 41, none⟩)) (hy : a.eval y = .int .u64 (p : Nat))
    (k : ∀ W, RowAt W b (H.cells ⟨h.pc, h.x, h.wt, ⟨h.c.st, h.c.en, h.c.ve, h.c.sc, h.c.ep, h.c.ca, h.c.va, p⟩⟩) 31 → Only b w W → wpList Tryd.prog ops Q rest (a.put dst undef) W) : wpList Tryd.prog ops Q (⟨dst, .store 24 x y, ty, pos, after, none⟩ :: rest) a w :=
  op_store_cell b 41 hx _ hy h.cells _ _ hr size_long (by show 41 < 42; decide) rfl rfl k
theorem ld_wt (b : Nat) (h : H) (hr : RowAt w b h.cells 31) (hx : a.eval x = .pointer (some ⟨b, 33, none⟩))
    (k : wpList Tryd.prog ops Q rest (a.put dst (.bool h.wt)) w) : wpList Tryd.prog ops Q (⟨dst, .load 4 x, ty, pos, after, none⟩ :: rest) a w :=
  op_load_cell b 33 hx h.cells _ _ hr rfl _ Tryd.underlying4 rfl k
theorem st_wt (b : Nat) (h : H) (p : Bool) (hr : RowAt w b h.cells 31) (hx : a.eval x = .pointer (some ⟨b, 33, none⟩)) (hy : a.eval y = .bool p)
    (k : ∀ W, RowAt W b (H.cells ⟨h.pc, h.x, p, h.c⟩) 31 → Only b w W → wpList Tryd.prog ops Q rest (a.put dst undef) W) : wpList Tryd.prog ops Q (⟨dst, .store 4 x y, ty, pos, after, none⟩ :: rest) a w :=
  op_store_cell b 33 hx _ hy h.cells _ _ hr size_bool (by show 33 < 42; decide) rfl rfl k
theorem i_one (i : I6) : i.cells.all (·.oneCell') = true := by simp [I6.cells, Value.oneCell']
theorem bx_i (N : Nat) (i : I6) (hN : w.heap.size = N) (hx : a.eval x = .agg i.cells)
    (k : ∀ W, RowAt W N i.cells 61 → Below N w W → Hid (W.heap.size = N + 1) → wpList Tryd.prog ops Q rest (a.put dst (.pointer (some ⟨N, 0, none⟩))) W) :
    wpList Tryd.prog ops Q (⟨dst, .box 61 x, ty, pos, after, none⟩ :: rest) a w := op_box N hN i.cells hx k
def zeroI : I6 := ⟨0, 0, 0, 0, 0, 0⟩
theorem zero_inst (w : World) : (zeroValue 61).run Tryd.prog w = .ok (.agg zeroI.cells) w :=
  (zero_of_info (P := Tryd.prog) (t := 61) (v := .agg zeroI.cells) (n := 6) (by kernel_rfl)).1 w
theorem al_i (N : Nat) (hN : w.heap.size = N)
    (k : ∀ W, RowAt W N zeroI.cells 61 → Below N w W → Hid (W.heap.size = N + 1) → wpList Tryd.prog ops Q rest (a.put dst (.pointer (some ⟨N, 0, none⟩))) W) :
    wpList Tryd.prog ops Q (⟨dst, .alloc 61, ty, pos, after, none⟩ :: rest) a w := op_alloc N hN zeroI.cells zero_inst k
theorem ld_i (b : Nat) (i : I6) (hr : RowAt w b i.cells 61) (hx : a.eval x = .pointer (some ⟨b, 0, none⟩))
    (k : wpList Tryd.prog ops Q rest (a.put dst (.agg i.cells)) w) : wpList Tryd.prog ops Q (⟨dst, .load 61 x, ty, pos, after, none⟩ :: rest) a w :=
  op_load b hx i.cells _ hr _ Tryd.underlying61 rfl size_inst k
theorem st_i (b : Nat) (old i : I6) (hr : RowAt w b old.cells 61) (hx : a.eval x = .pointer (some ⟨b, 0, none⟩)) (hy : a.eval y = .agg i.cells)
    (k : ∀ W, RowAt W b i.cells 61 → Only b w W → wpList Tryd.prog ops Q rest (a.put dst undef) W) : wpList Tryd.prog ops Q (⟨dst, .store 61 x y, ty, pos, after, none⟩ :: rest) a w :=
  op_store b hx i.cells hy old.cells _ hr size_inst rfl (i_one i) k
theorem ld_op (b : Nat) (i : I6) (hr : RowAt w b i.cells 61) (hx : a.eval x = .pointer (some ⟨b, 0, none⟩))
    (k : wpList Tryd.prog ops Q rest (a.put dst (.int .i64 i.op)) w) : wpList Tryd.prog ops Q (⟨dst, .load 3 x, ty, pos, after, none⟩ :: rest) a w :=
  op_load_cell b 0 hx i.cells _ _ hr rfl _ Tryd.underlying3 rfl k
theorem ld_rd (b : Nat) (i : I6) (hr : RowAt w b i.cells 61) (hx : a.eval x = .pointer (some ⟨b, 1, none⟩))
    (k : wpList Tryd.prog ops Q rest (a.put dst (.int .i64 i.rd)) w) : wpList Tryd.prog ops Q (⟨dst, .load 3 x, ty, pos, after, none⟩ :: rest) a w :=
  op_load_cell b 1 hx i.cells _ _ hr rfl _ Tryd.underlying3 rfl k
theorem ld_rs1 (b : Nat) (i : I6) (hr : RowAt w b i.cells 61) (hx : a.eval x = .pointer (some ⟨b, 2, none⟩))
    (k : wpList Tryd.prog ops Q rest (a.put dst (.int .i64 i.rs1)) w) : wpList Tryd.prog ops Q (⟨dst, .load 3 x, ty, pos, after, none⟩ :: rest) a w :=
  op_load_cell b 2 hx i.cells _ _ hr rfl _ Tryd.underlying3 rfl k
theorem ld_rs2 (b : Nat) (i : I6) (hr : RowAt w b i.cells 61) (hx : a.eval x = .pointer (some ⟨b, 3, none⟩))
    (k : wpList Tryd.prog ops Q rest (a.put dst (.int .i64 i.rs2)) w) : wpList Tryd.prog ops Q (⟨dst, .load 3 x, ty, pos, after, none⟩ :: rest) a w :=
  op_load_cell b 3 hx i.cells _ _ hr rfl _ Tryd.underlying3 rfl k
theorem ld_imm (b : Nat) (i : I6) (hr : RowAt w b i.cells 61) (hx : a.eval x = .pointer (some ⟨b, 4, none⟩))
    (k : wpList Tryd.prog ops Q rest (a.put dst (.int .i64 i.imm)) w) : wpList Tryd.prog ops Q (⟨dst, .load 3 x, ty, pos, after, none⟩ :: rest) a w :=
  op_load_cell b 4 hx i.cells _ _ hr rfl _ Tryd.underlying3 rfl k
theorem ld_csr (b : Nat) (i : I6) (hr : RowAt w b i.cells 61) (hx : a.eval x = .pointer (some ⟨b, 5, none⟩))
    (k : wpList Tryd.prog ops Q rest (a.put dst (.int .i64 i.csr)) w) : wpList Tryd.prog ops Q (⟨dst, .load 3 x, ty, pos, after, none⟩ :: rest) a w :=
  op_load_cell b 5 hx i.cells _ _ hr rfl _ Tryd.underlying3 rfl k
theorem size_acc : (Tryd.prog.info? 33).map (·.size) = some 6 := by kernel_rfl
theorem a_one (i : A6) : i.cells.all (·.oneCell') = true := by simp [A6.cells, Value.oneCell']
theorem zero_acc (w : World) : (zeroValue 33).run Tryd.prog w = .ok (.agg noA.cells) w :=
  (zero_of_info (P := Tryd.prog) (t := 33) (v := .agg noA.cells) (n := 6) (by kernel_rfl)).1 w
theorem al_a (N : Nat) (hN : w.heap.size = N)
    (k : ∀ W, RowAt W N noA.cells 33 → Below N w W → Hid (W.heap.size = N + 1) → wpList Tryd.prog ops Q rest (a.put dst (.pointer (some ⟨N, 0, none⟩))) W) :
    wpList Tryd.prog ops Q (⟨dst, .alloc 33, ty, pos, after, none⟩ :: rest) a w := op_alloc N hN noA.cells zero_acc k
theorem bx_a (N : Nat) (i : A6) (hN : w.heap.size = N) (hx : a.eval x = .agg i.cells)
    (k : ∀ W, RowAt W N i.cells 33 → Below N w W → Hid (W.heap.size = N + 1) → wpList Tryd.prog ops Q rest (a.put dst (.pointer (some ⟨N, 0, none⟩))) W) :
    wpList Tryd.prog ops Q (⟨dst, .box 33 x, ty, pos, after, none⟩ :: rest) a w := op_box N hN i.cells hx k
theorem ld_a (b : Nat) (i : A6) (hr : RowAt w b i.cells 33) (hx : a.eval x = .pointer (some ⟨b, 0, none⟩))
    (k : wpList Tryd.prog ops Q rest (a.put dst (.agg i.cells)) w) : wpList Tryd.prog ops Q (⟨dst, .load 33 x, ty, pos, after, none⟩ :: rest) a w :=
  op_load b hx i.cells _ hr _ Tryd.underlying33 rfl size_acc k
theorem st_a (b : Nat) (old i : A6) (hr : RowAt w b old.cells 33) (hx : a.eval x = .pointer (some ⟨b, 0, none⟩)) (hy : a.eval y = .agg i.cells)
    (k : ∀ W, RowAt W b i.cells 33 → Only b w W → wpList Tryd.prog ops Q rest (a.put dst undef) W) : wpList Tryd.prog ops Q (⟨dst, .store 33 x y, ty, pos, after, none⟩ :: rest) a w :=
  op_store b hx i.cells hy old.cells _ hr size_acc rfl (a_one i) k

variable {S : World → Prop} {K : Act → World → Prop} {E : Prop}
theorem y_h (b : Nat) (h : H) (hS : ∀ V, S V → RowAt V b h.cells 31) (hx : a.eval x = .pointer (some ⟨b, 0, none⟩)) :
    YieldsIf Tryd.prog ops S ⟨dst, .load 31 x, ty, pos, after, none⟩ (.agg h.cells) a := y_load b h.cells _ hS _ Tryd.underlying31 rfl size_hart hx
theorem y_int (b j : Nat) (v : Int) (hS : ∀ V, S V → V.cell? ⟨b, j, none⟩ = some (.int .i64 v)) (hx : a.eval x = .pointer (some ⟨b, j, none⟩)) :
    YieldsIf Tryd.prog ops S ⟨dst, .load 3 x, ty, pos, after, none⟩ (.int .i64 v) a := y_cell b j _ hS _ Tryd.underlying3 rfl hx
theorem y_word (b j : Nat) (v : Int) (hS : ∀ V, S V → V.cell? ⟨b, j, none⟩ = some (.int .u32 v)) (hx : a.eval x = .pointer (some ⟨b, j, none⟩)) :
    YieldsIf Tryd.prog ops S ⟨dst, .load 22 x, ty, pos, after, none⟩ (.int .u32 v) a := y_cell b j _ hS _ Tryd.underlying22 rfl hx
theorem s_h (b : Nat) (old h : H) (hr : RowAt w b old.cells 31) (hx : a.eval x = .pointer (some ⟨b, 0, none⟩)) (hy : a.eval y = .agg h.cells)
    (k : ∀ W, RowAt W b h.cells 31 → Only b w W → K (a.put dst undef) W) :
    Oper.wp Tryd.prog ⟨dst, .store 31 x y, ty, pos, after, none⟩ a w K Q :=
  s_store b hx h.cells hy old.cells _ hr size_hart rfl (h_one h) k
theorem s_a (b : Nat) (old h : A6) (hr : RowAt w b old.cells 33) (hx : a.eval x = .pointer (some ⟨b, 0, none⟩)) (hy : a.eval y = .agg h.cells)
    (k : ∀ W, RowAt W b h.cells 33 → Only b w W → K (a.put dst undef) W) :
    Oper.wp Tryd.prog ⟨dst, .store 33 x y, ty, pos, after, none⟩ a w K Q :=
  s_store b hx h.cells hy old.cells _ hr size_acc rfl (a_one h) k
end Go.Proofs.YtchjhpeogdkbmaaDoor
