/-
  What hart.Check and Reset, the law's giveHart and sure answer.
-/
import Derived.Test.YtelakpogochifaaDoorHaAll
import Derived.Test.YtelakpogochifaaDoorHaEq
import Derived.Test.YtelakpogochifaaDoorHCsCheck
namespace Go.Proofs.YtelakpogochifaaDoor
open Go.RowKit
set_option linter.unusedVariables false

attribute [local go_sem] H.at0 H.at1 H.at2 H.at3 H.at4 H.at5 H.at6 H.at7 H.at8 H.at9 H.at10 H.at11 H.at12 H.at13 H.at14 H.at15 H.at16 H.at17 H.at18 H.at19 H.at20 H.at21 H.at22 H.at23 H.at24 H.at25 H.at26 H.at27 H.at28 H.at29 H.at30 H.at31 H.at32 H.at33 H.at34 H.at35 H.at36 H.at37 H.at38 H.at39 H.at40 H.at41 A6.at0 A6.at1 A6.at2 A6.at3 A6.at4 A6.at5

/-- Whether a hart may be. -/
def mayH (h : H) : Bool := decide (h.pc % 4 = 0) && (decide (h.x 0 = 0) && mayB h.c)
theorem cs_check_bl (s : S8) (hs : s.Ok) (w : World) :
    Calls Tryd.prog 42 #[.agg s.cells] w fun e w' => e = .returned (checkV (mayB s)) ∧ Below w.heap.size w w' :=
  (cs_check_any s hs w).mono fun e w' ⟨he, o, hw⟩ => ⟨he, hw ▸ below_one w o⟩
set_option maxHeartbeats 1000000 in
theorem check_pc (h : H) (ok : h.Ok) (h0 : ¬ h.pc % 4 = 0) (w : World) :
    Calls Tryd.prog 15 #[.agg h.cells] w fun e w' => e = .returned (checkV false) ∧ Below w.heap.size w w' := by
  have t0 : ((h.pc : Int) % 4 != 0) = true := by simp; omega
  clear h0
  go_enter Tryd.func15, Tryd.ntmps15
  go_wp2_with (first | ((with_reducible refine bx_h w.heap.size h ?_ ?_ ?_); exact rfl; exact rfl; intro W hr hb hz; have fx := hr.cell) | ((with_reducible refine ld_pc w.heap.size _ hr ?_ ?_); exact rfl) | ((with_reducible refine ld_c w.heap.size _ hr ?_ ?_); exact rfl))
  go_ret
  exact ⟨rfl, hb⟩

set_option maxHeartbeats 1000000 in
theorem check_x (h : H) (ok : h.Ok) (h0 : h.pc % 4 = 0) (h1 : ¬ h.x 0 = 0) (w : World) :
    Calls Tryd.prog 15 #[.agg h.cells] w fun e w' => e = .returned (checkV false) ∧ Below w.heap.size w w' := by
  have t0 : ((h.pc : Int) % 4 != 0) = false := by simp; omega
  have t1 : (((h.x 0 : Nat) : Int) != 0) = true := by simp; omega
  clear h0 h1
  go_enter Tryd.func15, Tryd.ntmps15
  go_wp2_with (first | ((with_reducible refine bx_h w.heap.size h ?_ ?_ ?_); exact rfl; exact rfl; intro W hr hb hz; have fx := hr.cell) | ((with_reducible refine ld_pc w.heap.size _ hr ?_ ?_); exact rfl) | ((with_reducible refine ld_c w.heap.size _ hr ?_ ?_); exact rfl))
  go_ret
  exact ⟨rfl, hb⟩

set_option maxHeartbeats 1000000 in
theorem check_c (h : H) (ok : h.Ok) (h0 : h.pc % 4 = 0) (h1 : h.x 0 = 0) (w : World) :
    Calls Tryd.prog 15 #[.agg h.cells] w fun e w' => e = .returned (checkV (mayB h.c)) ∧ Below w.heap.size w w' := by
  have t0 : ((h.pc : Int) % 4 != 0) = false := by simp; omega
  have t1 : (((h.x 0 : Nat) : Int) != 0) = false := by simp; omega
  clear h0 h1
  have HC := hide (fun w => cs_check_bl h.c ok.c w)
  go_enter Tryd.func15, Tryd.ntmps15
  go_wp2_with (first | ((with_reducible refine bx_h w.heap.size h ?_ ?_ ?_); exact rfl; exact rfl; intro W hr hb hz; have fx := hr.cell) | ((with_reducible refine ld_pc w.heap.size _ hr ?_ ?_); exact rfl) | ((with_reducible refine ld_c w.heap.size _ hr ?_ ?_); exact rfl) | (go_at_call 42; refine (HC.out _).mono ?_; rintro e W ⟨rfl, hbc⟩; replace hr := hr.bl hbc; replace hb := below_bl rfl hb hbc))
  go_ret
  exact ⟨rfl, hb⟩

theorem check_any (h : H) (ok : h.Ok) (w : World) :
    Calls Tryd.prog 15 #[.agg h.cells] w fun e w' => e = .returned (checkV (mayH h)) ∧ Below w.heap.size w w' := by
  unfold mayH
  by_cases h0 : h.pc % 4 = 0
  · by_cases h1 : h.x 0 = 0
    · rw [decide_eq_true h0, decide_eq_true h1]; exact check_c h ok h0 h1 w
    · rw [decide_eq_false h1]; simp only [Bool.false_and, Bool.and_false]; exact check_x h ok h0 h1 w
  · rw [decide_eq_false h0]; simp only [Bool.false_and]; exact check_pc h ok h0 w
theorem built_h (h : H) : Tryd.prog.built 31 [(0, .int .u32 (h.pc : Nat)), (1, .agg h.xs), (2, .bool h.wt), (3, .agg h.c.cells)] = some h.cells := by kernel_rfl
variable {ops : Array Oper} {rest : List Oper} {dst : Option Tmp} {ty : TypeId} {pos : String} {after : Array Edge} {a : Act} {w : World} {Q : Exit → Act → World → Prop} {x y : Operand}
theorem bd_h {x0 x1 x2 x3 : Operand} (h : H) (h0 : a.eval x0 = .int .u32 (h.pc : Nat)) (h1 : a.eval x1 = .agg h.xs) (h2 : a.eval x2 = .bool h.wt) (h3 : a.eval x3 = .agg h.c.cells)
    (k : wpList Tryd.prog ops Q rest (a.put dst (.agg h.cells)) w) : wpList Tryd.prog ops Q (⟨dst, .build 31 #[(0, x0), (1, x1), (2, x2), (3, x3)], ty, pos, after, none⟩ :: rest) a w := by
  have hp : ((#[(0, x0), (1, x1), (2, x2), (3, x3)] : Array (Nat × Operand)).map fun (i, x) => (i, a.eval x)).toList = [(0, .int .u32 (h.pc : Nat)), (1, .agg h.xs), (2, .bool h.wt), (3, .agg h.c.cells)] := by
    simp [h0, h1, h2, h3]
  refine wpList_build rfl 31 _ rfl ?_ ?_
  · rw [hp, built_h]; rfl
  · rw [hp, built_h]; exact k
theorem built_r (p : Nat) : Tryd.prog.built 31 [(0, .int .u32 (p : Nat))] = some (H.cells ⟨p, fun _ => 0, false, zeroS⟩) := by kernel_rfl
theorem bd_r {x0 : Operand} (p : Nat) (h0 : a.eval x0 = .int .u32 (p : Nat))
    (k : wpList Tryd.prog ops Q rest (a.put dst (.agg (H.cells ⟨p, fun _ => 0, false, zeroS⟩))) w) : wpList Tryd.prog ops Q (⟨dst, .build 31 #[(0, x0)], ty, pos, after, none⟩ :: rest) a w := by
  have hp : ((#[(0, x0)] : Array (Nat × Operand)).map fun (i, x) => (i, a.eval x)).toList = [(0, .int .u32 (p : Nat))] := by
    simp [h0]
  refine wpList_build rfl 31 _ rfl ?_ ?_
  · rw [hp, built_r]; rfl
  · rw [hp, built_r]; exact k
theorem bx_g (N : Nat) (h : H) (hN : w.heap.size = N) (hx : a.eval x = .agg h.cells)
    (k : ∀ W, RowAt W N h.cells 28 → Below N w W → Hid (W.heap.size = N + 1) → wpList Tryd.prog ops Q rest (a.put dst (.pointer (some ⟨N, 0, none⟩))) W) :
    wpList Tryd.prog ops Q (⟨dst, .box 28 x, ty, pos, after, none⟩ :: rest) a w := op_box N hN h.cells hx k
theorem size_g : (Tryd.prog.info? 28).map (·.size) = some 42 := by kernel_rfl
theorem ld_g (b : Nat) (h : H) (hr : RowAt w b h.cells 28) (hx : a.eval x = .pointer (some ⟨b, 0, none⟩))
    (k : wpList Tryd.prog ops Q rest (a.put dst (.agg h.cells)) w) : wpList Tryd.prog ops Q (⟨dst, .load 28 x, ty, pos, after, none⟩ :: rest) a w :=
  op_load b hx h.cells _ hr _ Tryd.underlying28 rfl size_g k
theorem size_xs : (Tryd.prog.info? 23).map (·.size) = some 32 := by kernel_rfl
theorem ex_xs (h : H) : (h.cells.extract 1 (1 + h.xs.size)).toList = h.xs.toList := by simp [H.cells, H.xs]
theorem ld_gx (b : Nat) (h : H) (t' : TypeId) (hr : RowAt w b h.cells t') (hx : a.eval x = .pointer (some ⟨b, 1, none⟩))
    (k : wpList Tryd.prog ops Q rest (a.put dst (.agg h.xs)) w) : wpList Tryd.prog ops Q (⟨dst, .load 23 x, ty, pos, after, none⟩ :: rest) a w :=
  op_load_mid b 1 hx h.cells h.xs _ hr (ex_xs h) _ Tryd.underlying23 rfl size_xs k
theorem size_c5 : (Tryd.prog.info? 26).map (·.size) = some 8 := by kernel_rfl
theorem ld_gc (b : Nat) (h : H) (hr : RowAt w b h.cells 28) (hx : a.eval x = .pointer (some ⟨b, 34, none⟩))
    (k : wpList Tryd.prog ops Q rest (a.put dst (.agg h.c.cells)) w) : wpList Tryd.prog ops Q (⟨dst, .load 26 x, ty, pos, after, none⟩ :: rest) a w :=
  op_load_mid b 34 hx h.cells h.c.cells _ hr rfl _ Tryd.underlying26 rfl size_c5 k
def resetH (pc : Nat) : H := ⟨pc - pc % 4, fun _ => 0, false, zeroS⟩
theorem resetH_ok (pc : Nat) (h : pc < 4294967296) : (resetH pc).Ok := ⟨by show pc - pc % 4 < _; omega, fun _ => by show 0 < _; decide, zeroS_ok⟩
set_option maxHeartbeats 1000000 in
theorem reset_any (pc : Nat) (hp : pc < 4294967296) (w : World) :
    Calls Tryd.prog 17 #[.int .u32 pc] w fun e w' => e = .returned (.agg (resetH pc).cells) ∧ Below w.heap.size w w' := by
  have E0 : Hid (Value.int .u32 ((pc : Int) - (pc : Int) % 4) = .int .u32 ((pc - pc % 4 : Nat) : Int)) := hide (by congr 1; omega)
  go_enter Tryd.func17, Tryd.ntmps17
  go_wp2_with (first | ((with_reducible refine al_h w.heap.size ?_ ?_); exact rfl; intro W hq hb hz) | ((with_reducible refine bd_r (pc - pc % 4) ?_ ?_); exact E0.out) | ((with_reducible refine st_h w.heap.size _ (resetH pc) hq ?_ ?_ ?_); exact rfl; exact rfl; intro W hnew ho; replace hq := hnew; replace hb := ho.bel _ _ (by omega) hb))
  refine bodyPost_ret (results_cell_row Tryd.results17 _ _ w.heap.size _ _ _ _ rfl hq Tryd.underlying31 rfl size_hart) rfl ?_
  exact ⟨rfl, hb⟩

set_option maxHeartbeats 1000000 in
theorem give_any (h : H) (w : World) :
    Calls Tryd.prog 9 #[.agg h.cells] w fun e w' => e = .returned (.agg h.cells) ∧ Below w.heap.size w w' := by
  go_enter Tryd.func9, Tryd.ntmps9
  go_wp2_with (first | ((with_reducible refine bx_g w.heap.size h ?_ ?_ ?_); exact rfl; exact rfl; intro W hr hb hz) | ((with_reducible refine al_h (w.heap.size + 1) ?_ ?_); exact hz.out; intro W hq hb' hz'; replace hr := hr.bl (hz.out ▸ hb'); replace hb := hb.trans (hb'.mono (by omega)); replace hz := hz'; have fx := hr.cell) | ((with_reducible refine ld_gx w.heap.size h _ hr ?_ ?_); exact rfl) | ((with_reducible refine ld_gc w.heap.size h hr ?_ ?_); exact rfl) | ((with_reducible refine bd_h h ?_ ?_ ?_ ?_ ?_); exact rfl; exact rfl; exact rfl; exact rfl) | ((with_reducible refine st_h (w.heap.size + 1) _ h hq ?_ ?_ ?_); exact rfl; exact rfl; intro W hnew ho; replace hr := hr.only ho (by omega); replace hq := hnew; replace hb := ho.bel _ _ (by omega) hb))
  refine bodyPost_ret (results_cell_row Tryd.results9 _ _ (w.heap.size + 1) _ _ _ _ rfl hq Tryd.underlying31 rfl size_hart) rfl ?_
  exact ⟨rfl, hb⟩

theorem sure_do : doH (resetH 0) 5243027 0 = (⟨4, setX (fun _ => 0) 1 5, false, upCt zeroS⟩, noA) := by
  have h1 : decOp 5243027 = some 18 := by decide +kernel
  have h2 : toldN 18 5243027 = ⟨18, 1, 0, 0, 5, 0⟩ := (I6.same_iff _ _).1 (by decide +kernel)
  unfold doH
  rw [h1]
  show doOp (resetH 0) 18 (toldN 18 5243027) 5243027 0 = _
  rw [h2]
  rfl
set_option maxHeartbeats 1000000 in
theorem sure_any (w : World) (hA : HartAt w) :
    Calls Tryd.prog 11 #[] w fun e w' => e = .returned (.bool true) ∧ Below w.heap.size w w' := by
  have HA := hide hA
  clear hA
  have HR := hide (fun w => reset_any 0 (by decide) w)
  rw [show (((0 : Nat) : Int)) = 0 from rfl] at HR
  have HD := hide (fun w hw => do_all (resetH 0) (resetH_ok 0 (by decide)) 5243027 (by decide) 0 (by decide) w hw)
  rw [sure_do, show (((0 : Nat) : Int)) = 0 from rfl, show (((5243027 : Nat) : Int)) = 5243027 from rfl] at HD
  have e1 : setX (fun _ => 0) 1 5 1 = 5 := rfl
  have e2 : (upCt zeroS).ct = 1 := rfl
  have e3 : noA.kind = 0 := rfl
  go_enter Tryd.func11, Tryd.ntmps11
  go_wp2_with (first | (go_at_call 17; refine (HR.out _).mono ?_; rintro e W ⟨rfl, hb⟩) | (go_at_call 8; refine (HD.out _ (HA.out.below hb)).mono ?_; rintro e W ⟨rfl, hbc⟩; replace hb := below_bl rfl hb hbc; obtain ⟨NI, hNI⟩ : ∃ n, W.heap.size = n := ⟨_, rfl⟩; have hlt : w.heap.size ≤ NI := (by (have := hb.size; omega)); replace hNI := hide hNI) | ((with_reducible refine al_h NI ?_ ?_); exact hNI.out; intro W hx hb' hz; replace hb := hb.trans (hb'.mono (by omega))) | ((with_reducible refine al_a (NI + 1) ?_ ?_); exact hz.out; intro W ha hb' hz'; replace hx := hx.bl (hz.out ▸ hb'); replace hb := hb.trans (hb'.mono (by omega))) | ((with_reducible refine st_h NI _ ⟨4, setX (fun _ => 0) 1 5, false, upCt zeroS⟩ hx ?_ ?_ ?_); exact rfl; exact rfl; intro W hnew ho; replace ha := ha.only ho (by omega); replace hx := hnew; replace hb := ho.bel _ _ (by omega) hb) | ((with_reducible refine st_a (NI + 1) _ noA ha ?_ ?_ ?_); exact rfl; exact rfl; intro W hnew ho; replace hx := hx.only ho (by omega); replace ha := hnew; replace hb := ho.bel _ _ (by omega) hb; have fx := hx.cell; have fa := ha.cell))
  go_ret
  exact ⟨rfl, hb⟩
end Go.Proofs.YtelakpogochifaaDoor
