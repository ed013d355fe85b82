/-
  What the document's control answers.
-/
import Derived.Test.YtchjhpeogdkbmaaDoorHaRow
import Derived.Laws.StructEq
import Derived.ChangeKeysEq
import Derived.Test.YtchjhpeogdkbmaaDoorHCsProg
import Derived.Test.YtchjhpeogdkbmaaDoorTk
import Derived.Test.YtchjhpeogdkbmaaDoorHaAll
import Derived.Deep.WholeRow
import Derived.Test.YtchjhpeogdkbmaaDoorJB
import Derived.Test.YtchjhpeogdkbmaaDoorHaGo
import Derived.Test.YtchjhpeogdkbmaaDoorJC
import Derived.Test.YtchjhpeogdkbmaaDoorHaSys
import Derived.Deep.RegionHeld3
namespace Go.Proofs.YtchjhpeogdkbmaaDoor
open Go.RowKit
set_option linter.unusedVariables false

/-- A hart's registers, as an array. -/
def H.xs (h : H) : Array Value := #[.int .u32 (h.x 0 : Nat), .int .u32 (h.x 1 : Nat), .int .u32 (h.x 2 : Nat), .int .u32 (h.x 3 : Nat), .int .u32 (h.x 4 : Nat), .int .u32 (h.x 5 : Nat), .int .u32 (h.x 6 : Nat), .int .u32 (h.x 7 : Nat), .int .u32 (h.x 8 : Nat), .int .u32 (h.x 9 : Nat), .int .u32 (h.x 10 : Nat), .int .u32 (h.x 11 : Nat), .int .u32 (h.x 12 : Nat), .int .u32 (h.x 13 : Nat), .int .u32 (h.x 14 : Nat), .int .u32 (h.x 15 : Nat), .int .u32 (h.x 16 : Nat), .int .u32 (h.x 17 : Nat), .int .u32 (h.x 18 : Nat), .int .u32 (h.x 19 : Nat), .int .u32 (h.x 20 : Nat), .int .u32 (h.x 21 : Nat), .int .u32 (h.x 22 : Nat), .int .u32 (h.x 23 : Nat), .int .u32 (h.x 24 : Nat), .int .u32 (h.x 25 : Nat), .int .u32 (h.x 26 : Nat), .int .u32 (h.x 27 : Nat), .int .u32 (h.x 28 : Nat), .int .u32 (h.x 29 : Nat), .int .u32 (h.x 30 : Nat), .int .u32 (h.x 31 : Nat)]
theorem info_word : ∃ i, Tryd.prog.info? 22 = some i ∧ i.size = 1 := by
  have := size_word
  cases hq : Tryd.prog.info? 22 with
  | none => simp [hq] at this
  | some i => exact ⟨i, rfl, by simpa [hq] using this⟩
set_option maxHeartbeats 1000000 in
theorem eq_xs (h : H) (d : Nat) (w : World) : (Op.equalIn (d + 2) 23 (.agg h.xs) (.agg h.xs)).run Tryd.prog w = .ok true w := by
  obtain ⟨i, hi, h1⟩ := info_word
  have hc : Tryd.prog.cellsOf 22 = 1 := by kernel_rfl
  rw [run_equalIn_array w (d + 1) h.xs h.xs Tryd.underlying23 hi, hc]
  generalize hx : h.xs = xs
  have hz : ∀ j, j < 32 → ∃ z, xs[j]? = some (.int .u32 z) := by
    subst hx
    intro j hj
    rcases j with _ | _ | _ | _ | _ | _ | _ | _ | _ | _ | _ | _ | _ | _ | _ | _ | _ | _ | _ | _ | _ | _ | _ | _ | _ | _ | _ | _ | _ | _ | _ | _ | j
    all_goals first | exact ⟨_, rfl⟩ | omega
  have hl : ∀ is : List Nat, (∀ j ∈ is, j < 32) → (Op.eqItems (d + 1) 22 1 xs xs is).run Tryd.prog w = .ok true w := by
    intro is
    induction is with
    | nil => intro _; simp [Op.eqItems]
    | cons j is ih =>
      intro hj
      obtain ⟨z, hz⟩ := hz j (hj j (by simp))
      have hp : (Go.part 22 xs (j * 1)).run Tryd.prog w = .ok (.int .u32 z) w := by
        simp [Go.part, go_sem, hz]
      have he : (Op.equalIn (d + 1) 22 (.int .u32 z) (.int .u32 z)).run Tryd.prog w = .ok true w := by
        simp [go_sem]
      simp only [Op.eqItems, Sem.run_bind, hp, he, Result.andThen_ok]
      simpa using ih (fun k hk => hj k (by simp [hk]))
  exact hl _ (fun j hj => by simpa using hj)

theorem H.at0 (h : H) : h.cells[0]? = some (.int .u32 (h.pc : Nat)) := rfl
theorem H.at1 (h : H) : h.cells[1]? = some (.int .u32 (h.x 0 : Nat)) := rfl
theorem H.at2 (h : H) : h.cells[2]? = some (.int .u32 (h.x 1 : Nat)) := rfl
theorem H.at3 (h : H) : h.cells[3]? = some (.int .u32 (h.x 2 : Nat)) := rfl
theorem H.at4 (h : H) : h.cells[4]? = some (.int .u32 (h.x 3 : Nat)) := rfl
theorem H.at5 (h : H) : h.cells[5]? = some (.int .u32 (h.x 4 : Nat)) := rfl
theorem H.at6 (h : H) : h.cells[6]? = some (.int .u32 (h.x 5 : Nat)) := rfl
theorem H.at7 (h : H) : h.cells[7]? = some (.int .u32 (h.x 6 : Nat)) := rfl
theorem H.at8 (h : H) : h.cells[8]? = some (.int .u32 (h.x 7 : Nat)) := rfl
theorem H.at9 (h : H) : h.cells[9]? = some (.int .u32 (h.x 8 : Nat)) := rfl
theorem H.at10 (h : H) : h.cells[10]? = some (.int .u32 (h.x 9 : Nat)) := rfl
theorem H.at11 (h : H) : h.cells[11]? = some (.int .u32 (h.x 10 : Nat)) := rfl
theorem H.at12 (h : H) : h.cells[12]? = some (.int .u32 (h.x 11 : Nat)) := rfl
theorem H.at13 (h : H) : h.cells[13]? = some (.int .u32 (h.x 12 : Nat)) := rfl
theorem H.at14 (h : H) : h.cells[14]? = some (.int .u32 (h.x 13 : Nat)) := rfl
theorem H.at15 (h : H) : h.cells[15]? = some (.int .u32 (h.x 14 : Nat)) := rfl
theorem H.at16 (h : H) : h.cells[16]? = some (.int .u32 (h.x 15 : Nat)) := rfl
theorem H.at17 (h : H) : h.cells[17]? = some (.int .u32 (h.x 16 : Nat)) := rfl
theorem H.at18 (h : H) : h.cells[18]? = some (.int .u32 (h.x 17 : Nat)) := rfl
theorem H.at19 (h : H) : h.cells[19]? = some (.int .u32 (h.x 18 : Nat)) := rfl
theorem H.at20 (h : H) : h.cells[20]? = some (.int .u32 (h.x 19 : Nat)) := rfl
theorem H.at21 (h : H) : h.cells[21]? = some (.int .u32 (h.x 20 : Nat)) := rfl
theorem H.at22 (h : H) : h.cells[22]? = some (.int .u32 (h.x 21 : Nat)) := rfl
theorem H.at23 (h : H) : h.cells[23]? = some (.int .u32 (h.x 22 : Nat)) := rfl
theorem H.at24 (h : H) : h.cells[24]? = some (.int .u32 (h.x 23 : Nat)) := rfl
theorem H.at25 (h : H) : h.cells[25]? = some (.int .u32 (h.x 24 : Nat)) := rfl
theorem H.at26 (h : H) : h.cells[26]? = some (.int .u32 (h.x 25 : Nat)) := rfl
theorem H.at27 (h : H) : h.cells[27]? = some (.int .u32 (h.x 26 : Nat)) := rfl
theorem H.at28 (h : H) : h.cells[28]? = some (.int .u32 (h.x 27 : Nat)) := rfl
theorem H.at29 (h : H) : h.cells[29]? = some (.int .u32 (h.x 28 : Nat)) := rfl
theorem H.at30 (h : H) : h.cells[30]? = some (.int .u32 (h.x 29 : Nat)) := rfl
theorem H.at31 (h : H) : h.cells[31]? = some (.int .u32 (h.x 30 : Nat)) := rfl
theorem H.at32 (h : H) : h.cells[32]? = some (.int .u32 (h.x 31 : Nat)) := rfl
theorem H.at33 (h : H) : h.cells[33]? = some (.bool h.wt) := rfl
theorem H.at34 (h : H) : h.cells[34]? = some (.int .u32 (h.c.st : Nat)) := rfl
theorem H.at35 (h : H) : h.cells[35]? = some (.int .u32 (h.c.en : Nat)) := rfl
theorem H.at36 (h : H) : h.cells[36]? = some (.int .u32 (h.c.ve : Nat)) := rfl
theorem H.at37 (h : H) : h.cells[37]? = some (.int .u32 (h.c.sc : Nat)) := rfl
theorem H.at38 (h : H) : h.cells[38]? = some (.int .u32 (h.c.ep : Nat)) := rfl
theorem H.at39 (h : H) : h.cells[39]? = some (.int .u32 (h.c.ca : Nat)) := rfl
theorem H.at40 (h : H) : h.cells[40]? = some (.int .u32 (h.c.va : Nat)) := rfl
theorem H.at41 (h : H) : h.cells[41]? = some (.int .u64 (h.c.ct : Nat)) := rfl
theorem A6.at0 (a : A6) : a.cells[0]? = some (.int .i64 a.kind) := rfl
theorem A6.at1 (a : A6) : a.cells[1]? = some (.int .u32 (a.pl : Nat)) := rfl
theorem A6.at2 (a : A6) : a.cells[2]? = some (.int .i64 a.n) := rfl
theorem A6.at3 (a : A6) : a.cells[3]? = some (.bool a.sg) := rfl
theorem A6.at4 (a : A6) : a.cells[4]? = some (.int .i64 a.rd) := rfl
theorem A6.at5 (a : A6) : a.cells[5]? = some (.int .u32 (a.va : Nat)) := rfl
set_option maxHeartbeats 1000000 in
theorem eq_h (h : H) (w : World) : (binOp .eql 31 (.agg h.cells) (.agg h.cells)).run Tryd.prog w = .ok (.bool true) w := by
  have hx : (Op.equalIn 9999 23 (.agg h.xs) (.agg h.xs)).run Tryd.prog w = .ok true w := eq_xs h 9997 w
  have e1 : h.cells.extract 1 33 = h.xs := by simp [H.cells, H.xs]
  have e2 : h.cells.extract 34 42 = h.c.cells := by simp [H.cells, S8.cells]
  simp [go_sem, e1, e2, hx, H.at0, H.at33, S8.cells]
theorem eq_x (h : H) (w : World) : (binOp .eql 23 (.agg h.xs) (.agg h.xs)).run Tryd.prog w = .ok (.bool true) w := by
  have hx : (Op.equalIn 10000 23 (.agg h.xs) (.agg h.xs)).run Tryd.prog w = .ok true w := eq_xs h 9998 w
  simp [go_sem, hx]
theorem ne_x (h : H) (w : World) : (binOp .neq 23 (.agg h.xs) (.agg h.xs)).run Tryd.prog w = .ok (.bool false) w := by
  have hx : (Op.equalIn 10000 23 (.agg h.xs) (.agg h.xs)).run Tryd.prog w = .ok true w := eq_xs h 9998 w
  simp [go_sem, hx]
end Go.Proofs.YtchjhpeogdkbmaaDoor
namespace Go.Proofs.YtchjhpeogdkbmaaDoor
open Go.RowKit
set_option linter.unusedVariables false

def checkV (b : Bool) : Value := if b then .nilIface else .iface 89 (.int .i64 1)

set_option maxHeartbeats 1000000 in
theorem cs_check_any (s : S8) (hs : s.Ok) (w : World) :
    Calls Tryd.prog 42 #[.agg s.cells] w fun e w' => e = .returned (checkV (mayB s)) ∧ ∃ o, w' = w.alloc o := by
  obtain ⟨st, en, ve, sc, ep, ca, va, ct⟩ := s
  obtain ⟨h0, h1, h2, h3, h4, h5, h6, h7⟩ := hs
  dsimp only at h0 h1 h2 h4
  have t0 := but_ne st 136 h0 (by decide)
  have t1 := but_ne en 2184 h1 (by decide)
  have t2 := mask_ne ve 2 h2 (by decide)
  have t3 := mask_ne ep 3 h4 (by decide)
  rw [show ((136 : Nat) : Int) = 136 from rfl, show (4294967295 - 136 : Nat) = 4294967159 from rfl] at t0
  rw [show ((2184 : Nat) : Int) = 2184 from rfl, show (4294967295 - 2184 : Nat) = 4294965111 from rfl] at t1
  rw [show ((2 : Nat) : Int) = 2 from rfl] at t2
  rw [show ((3 : Nat) : Int) = 3 from rfl] at t3
  have hm : mayB ⟨st, en, ve, sc, ep, ca, va, ct⟩ = (!(st &&& 4294967159 != 0) && (!(en &&& 4294965111 != 0) && (!(ve &&& 2 != 0) && !(ep &&& 3 != 0)))) := by
    unfold mayB; simp only [bne, Bool.not_not]
  rw [hm]; clear hm
  show Calls Tryd.prog 42 #[.agg #[.int .u32 st, .int .u32 en, .int .u32 ve, .int .u32 sc, .int .u32 ep, .int .u32 ca, .int .u32 va, .int .u64 ct]] w _
  generalize (st &&& 4294967159 != 0) = b0 at *
  generalize (en &&& 4294965111 != 0) = b1 at *
  generalize (ve &&& 2 != 0) = b2 at *
  generalize (ep &&& 3 != 0) = b3 at *
  cases b0
  · cases b1
    · cases b2
      · cases b3
        · go_enter Tryd.func42, Tryd.ntmps42
          go_wp2
          go_ret
          exact ⟨rfl, _, rfl⟩
        · go_enter Tryd.func42, Tryd.ntmps42
          go_wp2
          go_ret
          exact ⟨rfl, _, rfl⟩
      · go_enter Tryd.func42, Tryd.ntmps42
        go_wp2
        go_ret
        exact ⟨rfl, _, rfl⟩
    · go_enter Tryd.func42, Tryd.ntmps42
      go_wp2
      go_ret
      exact ⟨rfl, _, rfl⟩
  · go_enter Tryd.func42, Tryd.ntmps42
    go_wp2
    go_ret
    exact ⟨rfl, _, rfl⟩
end Go.Proofs.YtchjhpeogdkbmaaDoor
namespace Go.Proofs.YtchjhpeogdkbmaaDoor
open Go.RowKit
set_option linter.unusedVariables false

attribute [local go_sem] H.at0 H.at1 H.at2 H.at3 H.at4 H.at5 H.at6 H.at7 H.at8 H.at9 H.at10 H.at11 H.at12 H.at13 H.at14 H.at15 H.at16 H.at17 H.at18 H.at19 H.at20 H.at21 H.at22 H.at23 H.at24 H.at25 H.at26 H.at27 H.at28 H.at29 H.at30 H.at31 H.at32 H.at33 H.at34 H.at35 H.at36 H.at37 H.at38 H.at39 H.at40 H.at41 A6.at0 A6.at1 A6.at2 A6.at3 A6.at4 A6.at5

/-- Whether a hart may be. -/
def mayH (h : H) : Bool := decide (h.pc % 4 = 0) && (decide (h.x 0 = 0) && mayB h.c)
theorem cs_check_bl (s : S8) (hs : s.Ok) (w : World) :
    Calls Tryd.prog 42 #[.agg s.cells] w fun e w' => e = .returned (checkV (mayB s)) ∧ Below w.heap.size w w' :=
  (cs_check_any s hs w).mono fun e w' ⟨he, o, hw⟩ => ⟨he, hw ▸ below_one w o⟩
set_option maxHeartbeats 1000000 in
theorem check_pc (h : H) (ok : h.Ok) (h0 : ¬ h.pc % 4 = 0) (w : World) :
    Calls Tryd.prog 15 #[.agg h.cells] w fun e w' => e = .returned (checkV false) ∧ Below w.heap.size w w' := by
  have t0 : ((h.pc : Int) % 4 != 0) = true := by simp; omega
  clear h0
  go_enter Tryd.func15, Tryd.ntmps15
  go_wp2_with (first | ((with_reducible refine bx_h w.heap.size h ?_ ?_ ?_); exact rfl; exact rfl; intro W hr hb hz; have fx := hr.cell) | ((with_reducible refine ld_pc w.heap.size _ hr ?_ ?_); exact rfl) | ((with_reducible refine ld_c w.heap.size _ hr ?_ ?_); exact rfl))
  go_ret
  exact ⟨rfl, hb⟩

set_option maxHeartbeats 1000000 in
theorem check_x (h : H) (ok : h.Ok) (h0 : h.pc % 4 = 0) (h1 : ¬ h.x 0 = 0) (w : World) :
    Calls Tryd.prog 15 #[.agg h.cells] w fun e w' => e = .returned (checkV false) ∧ Below w.heap.size w w' := by
  have t0 : ((h.pc : Int) % 4 != 0) = false := by simp; omega
  have t1 : (((h.x 0 : Nat) : Int) != 0) = true := by simp; omega
  clear h0 h1
  go_enter Tryd.func15, Tryd.ntmps15
  go_wp2_with (first | ((with_reducible refine bx_h w.heap.size h ?_ ?_ ?_); exact rfl; exact rfl; intro W hr hb hz; have fx := hr.cell) | ((with_reducible refine ld_pc w.heap.size _ hr ?_ ?_); exact rfl) | ((with_reducible refine ld_c w.heap.size _ hr ?_ ?_); exact rfl))
  go_ret
  exact ⟨rfl, hb⟩

set_option maxHeartbeats 1000000 in
theorem check_c (h : H) (ok : h.Ok) (h0 : h.pc % 4 = 0) (h1 : h.x 0 = 0) (w : World) :
    Calls Tryd.prog 15 #[.agg h.cells] w fun e w' => e = .returned (checkV (mayB h.c)) ∧ Below w.heap.size w w' := by
  have t0 : ((h.pc : Int) % 4 != 0) = false := by simp; omega
  have t1 : (((h.x 0 : Nat) : Int) != 0) = false := by simp; omega
  clear h0 h1
  have HC := hide (fun w => cs_check_bl h.c ok.c w)
  go_enter Tryd.func15, Tryd.ntmps15
  go_wp2_with (first | ((with_reducible refine bx_h w.heap.size h ?_ ?_ ?_); exact rfl; exact rfl; intro W hr hb hz; have fx := hr.cell) | ((with_reducible refine ld_pc w.heap.size _ hr ?_ ?_); exact rfl) | ((with_reducible refine ld_c w.heap.size _ hr ?_ ?_); exact rfl) | (go_at_call 42; refine (HC.out _).mono ?_; rintro e W ⟨rfl, hbc⟩; obtain ⟨hr, hb⟩ := bl1 hbc hr hb))
  go_ret
  exact ⟨rfl, hb⟩

theorem check_any (h : H) (ok : h.Ok) (w : World) :
    Calls Tryd.prog 15 #[.agg h.cells] w fun e w' => e = .returned (checkV (mayH h)) ∧ Below w.heap.size w w' := by
  unfold mayH
  by_cases h0 : h.pc % 4 = 0
  · by_cases h1 : h.x 0 = 0
    · rw [decide_eq_true h0, decide_eq_true h1]; exact check_c h ok h0 h1 w
    · rw [decide_eq_false h1]; simp only [Bool.false_and, Bool.and_false]; exact check_x h ok h0 h1 w
  · rw [decide_eq_false h0]; simp only [Bool.false_and]; exact check_pc h ok h0 w
theorem built_h (h : H) : Tryd.prog.built 31 [(0, .int .u32 (h.pc : Nat)), (1, .agg h.xs), (2, .bool h.wt), (3, .agg h.c.cells)] = some h.cells := by kernel_rfl
variable {ops : Array Oper} {rest : List Oper} {dst : Option Tmp} {ty : TypeId} {pos : String} {after : Array Edge} {a : Act} {w : World} {Q : Exit → Act → World → Prop} {x y : Operand}
theorem bd_h {x0 x1 x2 x3 : Operand} (h : H) (h0 : a.eval x0 = .int .u32 (h.pc : Nat)) (h1 : a.eval x1 = .agg h.xs) (h2 : a.eval x2 = .bool h.wt) (h3 : a.eval x3 = .agg h.c.cells)
    (k : wpList Tryd.prog ops Q rest (a.put dst (.agg h.cells)) w) : wpList Tryd.prog ops Q (⟨dst, .build 31 #[(0, x0), (1, x1), (2, x2), (3, x3)], ty, pos, after, none⟩ :: rest) a w := by
  have hp : ((#[(0, x0), (1, x1), (2, x2), (3, x3)] : Array (Nat × Operand)).map fun (i, x) => (i, a.eval x)).toList = [(0, .int .u32 (h.pc : Nat)), (1, .agg h.xs), (2, .bool h.wt), (3, .agg h.c.cells)] := by
    simp [h0, h1, h2, h3]
  refine wpList_build rfl 31 _ rfl ?_ ?_
  · rw [hp, built_h]; rfl
  · rw [hp, built_h]; exact k
theorem built_r (p : Nat) : Tryd.prog.built 31 [(0, .int .u32 (p : Nat))] = some (H.cells ⟨p, fun _ => 0, false, zeroS⟩) := by kernel_rfl
theorem bd_r {x0 : Operand} (p : Nat) (h0 : a.eval x0 = .int .u32 (p : Nat))
    (k : wpList Tryd.prog ops Q rest (a.put dst (.agg (H.cells ⟨p, fun _ => 0, false, zeroS⟩))) w) : wpList Tryd.prog ops Q (⟨dst, .build 31 #[(0, x0)], ty, pos, after, none⟩ :: rest) a w := by
  have hp : ((#[(0, x0)] : Array (Nat × Operand)).map fun (i, x) => (i, a.eval x)).toList = [(0, .int .u32 (p : Nat))] := by
    simp [h0]
  refine wpList_build rfl 31 _ rfl ?_ ?_
  · rw [hp, built_r]; rfl
  · rw [hp, built_r]; exact k
theorem bx_g (N : Nat) (h : H) (hN : w.heap.size = N) (hx : a.eval x = .agg h.cells)
    (k : ∀ W, RowAt W N h.cells 28 → Below N w W → Hid (W.heap.size = N + 1) → wpList Tryd.prog ops Q rest (a.put dst (.pointer (some ⟨N, 0, none⟩))) W) :
    wpList Tryd.prog ops Q (⟨dst, .box 28 x, ty, pos, after, none⟩ :: rest) a w := op_box N hN h.cells hx k
theorem size_g : (Tryd.prog.info? 28).map (·.size) = some 42 := by kernel_rfl
theorem ld_g (b : Nat) (h : H) (hr : RowAt w b h.cells 28) (hx : a.eval x = .pointer (some ⟨b, 0, none⟩))
    (k : wpList Tryd.prog ops Q rest (a.put dst (.agg h.cells)) w) : wpList Tryd.prog ops Q (⟨dst, .load 28 x, ty, pos, after, none⟩ :: rest) a w :=
  op_load b hx h.cells _ hr _ Tryd.underlying28 rfl size_g k
theorem size_xs : (Tryd.prog.info? 23).map (·.size) = some 32 := by kernel_rfl
theorem ex_xs (h : H) : (h.cells.extract 1 (1 + h.xs.size)).toList = h.xs.toList := by simp [H.cells, H.xs]
theorem ld_gx (b : Nat) (h : H) (t' : TypeId) (hr : RowAt w b h.cells t') (hx : a.eval x = .pointer (some ⟨b, 1, none⟩))
    (k : wpList Tryd.prog ops Q rest (a.put dst (.agg h.xs)) w) : wpList Tryd.prog ops Q (⟨dst, .load 23 x, ty, pos, after, none⟩ :: rest) a w :=
  op_load_mid b 1 hx h.cells h.xs _ hr (ex_xs h) _ Tryd.underlying23 rfl size_xs k
theorem size_c5 : (Tryd.prog.info? 26).map (·.size) = some 8 := by kernel_rfl
theorem ld_gc (b : Nat) (h : H) (hr : RowAt w b h.cells 28) (hx : a.eval x = .pointer (some ⟨b, 34, none⟩))
    (k : wpList Tryd.prog ops Q rest (a.put dst (.agg h.c.cells)) w) : wpList Tryd.prog ops Q (⟨dst, .load 26 x, ty, pos, after, none⟩ :: rest) a w :=
  op_load_mid b 34 hx h.cells h.c.cells _ hr rfl _ Tryd.underlying26 rfl size_c5 k
def resetH (pc : Nat) : H := ⟨pc - pc % 4, fun _ => 0, false, zeroS⟩
theorem resetH_ok (pc : Nat) (h : pc < 4294967296) : (resetH pc).Ok := ⟨by show pc - pc % 4 < _; omega, fun _ => by show 0 < _; decide, zeroS_ok⟩
set_option maxHeartbeats 1000000 in
theorem reset_any (pc : Nat) (hp : pc < 4294967296) (w : World) :
    Calls Tryd.prog 17 #[.int .u32 pc] w fun e w' => e = .returned (.agg (resetH pc).cells) ∧ Below w.heap.size w w' := by
  have E0 : Hid (Value.int .u32 ((pc : Int) - (pc : Int) % 4) = .int .u32 ((pc - pc % 4 : Nat) : Int)) := hide (by congr 1; omega)
  go_enter Tryd.func17, Tryd.ntmps17
  go_wp2_with (first | ((with_reducible refine al_h w.heap.size ?_ ?_); exact rfl; intro W hq hb hz) | ((with_reducible refine bd_r (pc - pc % 4) ?_ ?_); exact E0.out) | ((with_reducible refine st_h w.heap.size _ (resetH pc) hq ?_ ?_ ?_); exact rfl; exact rfl; intro W hnew ho; replace hq := hnew; replace hb := ho.bel _ _ (by omega) hb))
  refine bodyPost_ret (results_cell_row Tryd.results17 _ _ w.heap.size _ _ _ _ rfl hq Tryd.underlying31 rfl size_hart) rfl ?_
  exact ⟨rfl, hb⟩

set_option maxHeartbeats 1000000 in
theorem give_any (h : H) (w : World) :
    Calls Tryd.prog 9 #[.agg h.cells] w fun e w' => e = .returned (.agg h.cells) ∧ Below w.heap.size w w' := by
  go_enter Tryd.func9, Tryd.ntmps9
  go_wp2_with (first | ((with_reducible refine bx_g w.heap.size h ?_ ?_ ?_); exact rfl; exact rfl; intro W hr hb hz) | ((with_reducible refine al_h (w.heap.size + 1) ?_ ?_); exact hz.out; intro W hq hb' hz'; obtain ⟨hr, hb⟩ := an1 hz hb' hr hb; replace hz := hz'; have fx := hr.cell) | ((with_reducible refine ld_gx w.heap.size h _ hr ?_ ?_); exact rfl) | ((with_reducible refine ld_gc w.heap.size h hr ?_ ?_); exact rfl) | ((with_reducible refine bd_h h ?_ ?_ ?_ ?_ ?_); exact rfl; exact rfl; exact rfl; exact rfl) | ((with_reducible refine st_h (w.heap.size + 1) _ h hq ?_ ?_ ?_); exact rfl; exact rfl; intro W hnew ho; obtain ⟨hr, hb⟩ := on1 ho hr hb; replace hq := hnew))
  refine bodyPost_ret (results_cell_row Tryd.results9 _ _ (w.heap.size + 1) _ _ _ _ rfl hq Tryd.underlying31 rfl size_hart) rfl ?_
  exact ⟨rfl, hb⟩

theorem sure_do : doH (resetH 0) 5243027 0 = (⟨4, setX (fun _ => 0) 1 5, false, upCt zeroS⟩, noA) := by
  have h1 : decOp 5243027 = some 18 := by decide +kernel
  have h2 : toldN 18 5243027 = ⟨18, 1, 0, 0, 5, 0⟩ := (I6.same_iff _ _).1 (by decide +kernel)
  unfold doH
  rw [h1]
  show doOp (resetH 0) 18 (toldN 18 5243027) 5243027 0 = _
  rw [h2]
  rfl
set_option maxHeartbeats 1000000 in
theorem sure_any (w : World) (hA : HartAt w) :
    Calls Tryd.prog 11 #[] w fun e w' => e = .returned (.bool true) ∧ Below w.heap.size w w' := by
  have HA := hide hA
  clear hA
  have HR := hide (fun w => reset_any 0 (by decide) w)
  rw [show (((0 : Nat) : Int)) = 0 from rfl] at HR
  have HD := hide (fun w hw => do_all (resetH 0) (resetH_ok 0 (by decide)) 5243027 (by decide) 0 (by decide) w hw)
  rw [sure_do, show (((0 : Nat) : Int)) = 0 from rfl, show (((5243027 : Nat) : Int)) = 5243027 from rfl] at HD
  have e1 : setX (fun _ => 0) 1 5 1 = 5 := rfl
  have e2 : (upCt zeroS).ct = 1 := rfl
  have e3 : noA.kind = 0 := rfl
  go_enter Tryd.func11, Tryd.ntmps11
  go_wp2_with (first | (go_at_call 17; refine (HR.out _).mono ?_; rintro e W ⟨rfl, hb⟩) | (go_at_call 8; refine (HD.out _ (HA.out.below hb)).mono ?_; rintro e W ⟨rfl, hbc⟩; replace hb := below_bl rfl hb hbc; obtain ⟨NI, hNI⟩ : ∃ n, W.heap.size = n := ⟨_, rfl⟩; have hlt : w.heap.size ≤ NI := (by (have := hb.size; omega)); replace hNI := hide hNI) | ((with_reducible refine al_h NI ?_ ?_); exact hNI.out; intro W hx hb' hz; replace hb := hb.trans (hb'.mono (by omega))) | ((with_reducible refine al_a (NI + 1) ?_ ?_); exact hz.out; intro W ha hb' hz'; obtain ⟨hx, hb⟩ := an1 hz hb' hx hb) | ((with_reducible refine st_h NI _ ⟨4, setX (fun _ => 0) 1 5, false, upCt zeroS⟩ hx ?_ ?_ ?_); exact rfl; exact rfl; intro W hnew ho; obtain ⟨ha, hb⟩ := on1 ho ha hb; replace hx := hnew) | ((with_reducible refine st_a (NI + 1) _ noA ha ?_ ?_ ?_); exact rfl; exact rfl; intro W hnew ho; obtain ⟨hx, hb⟩ := on1 ho hx hb; replace ha := hnew; have fx := hx.cell; have fa := ha.cell))
  go_ret
  exact ⟨rfl, hb⟩
end Go.Proofs.YtchjhpeogdkbmaaDoor
namespace Go.Proofs.YtchjhpeogdkbmaaDoor
open Go.RowKit
set_option linter.unusedVariables false

variable {ops : Array Oper} {rest : List Oper} {dst : Option Tmp} {ty : TypeId} {pos : String} {after : Array Edge} {a : Act} {w : World} {Q : Exit → Act → World → Prop} {x y : Operand} {b : Nat} {gd : Option (Nat × Bool)}
theorem zero_g (w : World) : (zeroValue 28).run Tryd.prog w = .ok (.agg zeroH.cells) w :=
  (zero_of_info (P := Tryd.prog) (t := 28) (v := .agg zeroH.cells) (n := 42) (by kernel_rfl)).1 w
theorem al_g (N : Nat) (hN : w.heap.size = N)
    (k : ∀ W, RowAt W N zeroH.cells 28 → Below N w W → Hid (W.heap.size = N + 1) → wpList Tryd.prog ops Q rest (a.put dst (.pointer (some ⟨N, 0, none⟩))) W) :
    wpList Tryd.prog ops Q (⟨dst, .alloc 28, ty, pos, after, none⟩ :: rest) a w := op_alloc N hN zeroH.cells zero_g k
theorem st_g (b : Nat) (old h : H) (hr : RowAt w b old.cells 28) (hx : a.eval x = .pointer (some ⟨b, 0, none⟩)) (hy : a.eval y = .agg h.cells)
    (k : ∀ W, RowAt W b h.cells 28 → Only b w W → wpList Tryd.prog ops Q rest (a.put dst undef) W) : wpList Tryd.prog ops Q (⟨dst, .store 28 x y, ty, pos, after, none⟩ :: rest) a w :=
  op_store b hx h.cells hy old.cells _ hr size_g rfl (h_one h) k
theorem st_gc (b : Nat) (h : H) (c : S8) (hr : RowAt w b h.cells 28) (hx : a.eval x = .pointer (some ⟨b, 34, none⟩)) (hy : a.eval y = .agg c.cells)
    (k : ∀ W, RowAt W b (withC h c).cells 28 → Only b w W → wpList Tryd.prog ops Q rest (a.put dst undef) W) : wpList Tryd.prog ops Q (⟨dst, .store 26 x y, ty, pos, after, none⟩ :: rest) a w :=
  op_store_mid b 34 hx c.cells hy h.cells _ _ hr size_c5 (by show 34 + 8 ≤ 42; decide) (c_one c) (putAll_c h c) k
theorem ld_gpc (b : Nat) (h : H) (hr : RowAt w b h.cells 28) (hx : a.eval x = .pointer (some ⟨b, 0, none⟩))
    (k : wpList Tryd.prog ops Q rest (a.put dst (.int .u32 (h.pc : Nat))) w) : wpList Tryd.prog ops Q (⟨dst, .load 22 x, ty, pos, after, none⟩ :: rest) a w :=
  op_load_cell b 0 hx h.cells _ _ hr rfl _ Tryd.underlying22 rfl k
theorem st_gpc (b : Nat) (h : H) (p : Nat) (hr : RowAt w b h.cells 28) (hx : a.eval x = .pointer (some ⟨b, 0, none⟩)) (hy : a.eval y = .int .u32 (p : Nat))
    (k : ∀ W, RowAt W b (H.cells ⟨p, h.x, h.wt, h.c⟩) 28 → Only b w W → wpList Tryd.prog ops Q rest (a.put dst undef) W) : wpList Tryd.prog ops Q (⟨dst, .store 22 x y, ty, pos, after, none⟩ :: rest) a w :=
  op_store_cell b 0 hx _ hy h.cells _ _ hr size_word (by show 0 < 42; decide) rfl rfl k
theorem ld_gwt (b : Nat) (h : H) (hr : RowAt w b h.cells 28) (hx : a.eval x = .pointer (some ⟨b, 33, none⟩))
    (k : wpList Tryd.prog ops Q rest (a.put dst (.bool h.wt)) w) : wpList Tryd.prog ops Q (⟨dst, .load 4 x, ty, pos, after, none⟩ :: rest) a w :=
  op_load_cell b 33 hx h.cells _ _ hr rfl _ Tryd.underlying4 rfl k
theorem st_gwt (b : Nat) (h : H) (p : Bool) (hr : RowAt w b h.cells 28) (hx : a.eval x = .pointer (some ⟨b, 33, none⟩)) (hy : a.eval y = .bool p)
    (k : ∀ W, RowAt W b (H.cells ⟨h.pc, h.x, p, h.c⟩) 28 → Only b w W → wpList Tryd.prog ops Q rest (a.put dst undef) W) : wpList Tryd.prog ops Q (⟨dst, .store 4 x y, ty, pos, after, none⟩ :: rest) a w :=
  op_store_cell b 33 hx _ hy h.cells _ _ hr size_bool (by show 33 < 42; decide) rfl rfl k
theorem zero_gs (w : World) : (zeroValue 26).run Tryd.prog w = .ok (.agg zeroS.cells) w :=
  (zero_of_info (P := Tryd.prog) (t := 26) (v := .agg zeroS.cells) (n := 8) (by kernel_rfl)).1 w
theorem al_gs (N : Nat) (hN : w.heap.size = N)
    (k : ∀ W, RowAt W N zeroS.cells 26 → Below N w W → Hid (W.heap.size = N + 1) → wpList Tryd.prog ops Q rest (a.put dst (.pointer (some ⟨N, 0, none⟩))) W) :
    wpList Tryd.prog ops Q (⟨dst, .alloc 26, ty, pos, after, none⟩ :: rest) a w := op_alloc N hN zeroS.cells zero_gs k
theorem ld_gs (b : Nat) (c : S8) (hr : RowAt w b c.cells 26) (hx : a.eval x = .pointer (some ⟨b, 0, none⟩))
    (k : wpList Tryd.prog ops Q rest (a.put dst (.agg c.cells)) w) : wpList Tryd.prog ops Q (⟨dst, .load 26 x, ty, pos, after, none⟩ :: rest) a w :=
  op_load b hx c.cells _ hr _ Tryd.underlying26 rfl size_c5 k
theorem st_gs (b : Nat) (old c : S8) (hr : RowAt w b old.cells 26) (hx : a.eval x = .pointer (some ⟨b, 0, none⟩)) (hy : a.eval y = .agg c.cells)
    (k : ∀ W, RowAt W b c.cells 26 → Only b w W → wpList Tryd.prog ops Q rest (a.put dst undef) W) : wpList Tryd.prog ops Q (⟨dst, .store 26 x y, ty, pos, after, none⟩ :: rest) a w :=
  op_store b hx c.cells hy old.cells _ hr size_c5 rfl (c_one c) k
theorem gl_gc (b : Nat) (h : H) (hr : RowAt w b h.cells 28) (hx : a.eval x = .pointer (some ⟨b, 34, none⟩)) (hw : Region.wanted ⟨dst, .load 26 x, ty, pos, after, gd⟩ (yielded ops a.tmps) = true)
    (k : wpList Tryd.prog ops Q rest (a.put dst (.agg h.c.cells)) w) : wpList Tryd.prog ops Q (⟨dst, .load 26 x, ty, pos, after, gd⟩ :: rest) a w := by
  have hq := World.rangeAt_of_block hr 34 8
  exact BigFrame.wpList_want hw fun K hK => wp_load_mid 26 x rfl b 34 hx h.c.cells.toList _ hq Tryd.underlying26 rfl size_c5 (hK _ _ k)
theorem built_gr (p : Nat) : Tryd.prog.built 28 [(0, .int .u32 (p : Nat))] = some (H.cells ⟨p, fun _ => 0, false, zeroS⟩) := by kernel_rfl
theorem bd_gr {x0 : Operand} (p : Nat) (h0 : a.eval x0 = .int .u32 (p : Nat))
    (k : wpList Tryd.prog ops Q rest (a.put dst (.agg (H.cells ⟨p, fun _ => 0, false, zeroS⟩))) w) : wpList Tryd.prog ops Q (⟨dst, .build 28 #[(0, x0)], ty, pos, after, none⟩ :: rest) a w := by
  have hp : ((#[(0, x0)] : Array (Nat × Operand)).map fun (i, x) => (i, a.eval x)).toList = [(0, .int .u32 (p : Nat))] := by
    simp [h0]
  refine wpList_build rfl 28 _ rfl ?_ ?_
  · rw [hp, built_gr]; rfl
  · rw [hp, built_gr]; exact k
end Go.Proofs.YtchjhpeogdkbmaaDoor
namespace Go.Proofs.YtchjhpeogdkbmaaDoor
open Go.RowKit
set_option linter.unusedVariables false

attribute [local go_sem] H.at1

set_option maxHeartbeats 1000000 in
theorem rtrap8 (h : H) (ok : h.Ok) (ca va : Nat) (hc : ca < 4294967296) (w : World) :
    Calls Tryd.prog 29 #[.agg h.cells, .int .u32 ca, .int .u32 va] w fun e w' => e = .returned (.agg (trapH h ca va).cells) ∧ Below w.heap.size w w' := by
  have HT := hide (fun w => rtrap_any h.c ok.c ca va h.pc hc ok.pc w)
  go_enter Tryd.func29, Tryd.ntmps29
  go_wp2_with (first | ((with_reducible refine bx_g w.heap.size h ?_ ?_ ?_); exact rfl; exact rfl; intro W hr hb hz) | ((with_reducible refine al_g (w.heap.size + 1) ?_ ?_); exact hz.out; intro W hq hb' hz'; obtain ⟨hr, hb⟩ := an1 hz hb' hr hb; replace hz := hz') | ((with_reducible refine ld_gc w.heap.size _ hr ?_ ?_); exact rfl) | ((with_reducible refine ld_gpc w.heap.size _ hr ?_ ?_); exact rfl) | (go_at_call 64; refine (HT.out _).mono ?_; rintro e W ⟨rfl, hbc⟩; replace hr := hr.bl hbc; replace hq := hq.bl hbc; obtain ⟨NI, hNI⟩ : ∃ n, W.heap.size = n := ⟨_, rfl⟩; have lNI : w.heap.size + 2 ≤ NI := (by (have := hz.out; have := hbc.size; omega)); replace hNI := hide hNI; replace hb := below_bl rfl hb hbc) | ((with_reducible refine al_gs NI ?_ ?_); exact hNI.out; intro W hs hb' hz'; obtain ⟨hr, hq, hb⟩ := an2 hNI hb' hr hq hb) | ((with_reducible refine st_gs NI _ (trapN h.c ca va h.pc) hs ?_ ?_ ?_); exact rfl; exact rfl; intro W hnew ho; obtain ⟨hr, hq, hb⟩ := on2 ho hr hq hb; replace hs := hnew) | ((with_reducible refine ld_gs NI _ hs ?_ ?_); exact rfl) | ((with_reducible refine st_gc w.heap.size h (trapN h.c ca va h.pc) hr ?_ ?_ ?_); exact rfl; exact rfl; intro W hnew ho; replace hr := hnew; replace hq := hq.only ho (by omega); replace hb := ho.bel _ _ (by omega) hb) | ((with_reducible refine st_gpc w.heap.size _ (trapTo h.c.ve ca) hr ?_ ?_ ?_); exact rfl; exact rfl; intro W hnew ho; replace hr := hnew; replace hq := hq.only ho (by omega); replace hb := ho.bel _ _ (by omega) hb) | ((with_reducible refine ld_g w.heap.size _ hr ?_ ?_); exact rfl) | ((with_reducible refine st_g (w.heap.size + 1) _ (trapH h ca va) hq ?_ ?_ ?_); exact rfl; exact rfl; intro W hnew ho; obtain ⟨hr, hb⟩ := on1 ho hr hb; replace hq := hnew))
  refine bodyPost_ret (results_cell_row Tryd.results29 _ _ (w.heap.size + 1) _ _ _ _ rfl hq Tryd.underlying28 rfl size_g) rfl ?_
  exact ⟨rfl, hb⟩

end Go.Proofs.YtchjhpeogdkbmaaDoor
namespace Go.Proofs.YtchjhpeogdkbmaaDoor
open Go.RowKit
set_option linter.unusedVariables false

end Go.Proofs.YtchjhpeogdkbmaaDoor
namespace Go.Proofs.YtchjhpeogdkbmaaDoor
open Go.RowKit
set_option linter.unusedVariables false
variable {ops : Array Oper} {rest : List Oper} {dst : Option Tmp} {ty : TypeId} {pos : String} {after : Array Edge} {a : Act} {w : World} {Q : Exit → Act → World → Prop} {x y : Operand}
theorem st_gx (b r : Nat) (h : H) (p : Nat) (hr' : r < 32) (hr : RowAt w b h.cells 28) (hx : a.eval x = .pointer (some ⟨b, 1 + r, none⟩)) (hy : a.eval y = .int .u32 (p : Nat))
    (k : ∀ W, RowAt W b (H.cells ⟨h.pc, setX h.x r p, h.wt, h.c⟩) 28 → Only b w W → wpList Tryd.prog ops Q rest (a.put dst undef) W) : wpList Tryd.prog ops Q (⟨dst, .store 22 x y, ty, pos, after, none⟩ :: rest) a w :=
  op_store_cell b (1 + r) hx _ hy h.cells _ _ hr size_word (by show 1 + r < 42; omega) rfl (H.set_x h r p hr') k
theorem ld_gct (b : Nat) (h : H) (hr : RowAt w b h.cells 28) (hx : a.eval x = .pointer (some ⟨b, 41, none⟩))
    (k : wpList Tryd.prog ops Q rest (a.put dst (.int .u64 (h.c.ct : Nat))) w) : wpList Tryd.prog ops Q (⟨dst, .load 24 x, ty, pos, after, none⟩ :: rest) a w :=
  op_load_cell b 41 hx h.cells _ _ hr rfl _ Tryd.underlying24 rfl k
theorem st_gct (b : Nat) (h : H) (p : Nat) (hr : RowAt w b h.cells 28) (hx : a.eval x = .pointer (some ⟨b, 41, none⟩)) (hy : a.eval y = .int .u64 (p : Nat))
    (k : ∀ W, RowAt W b (H.cells ⟨h.pc, h.x, h.wt, ⟨h.c.st, h.c.en, h.c.ve, h.c.sc, h.c.ep, h.c.ca, h.c.va, p⟩⟩) 28 → Only b w W → wpList Tryd.prog ops Q rest (a.put dst undef) W) : wpList Tryd.prog ops Q (⟨dst, .store 24 x y, ty, pos, after, none⟩ :: rest) a w :=
  op_store_cell b 41 hx _ hy h.cells _ _ hr size_long (by show 41 < 42; decide) rfl rfl k
end Go.Proofs.YtchjhpeogdkbmaaDoor
namespace Go.Proofs.YtchjhpeogdkbmaaDoor
open Go.RowKit
set_option linter.unusedVariables false
set_option maxHeartbeats 1000000 in
theorem rto_yes (h : H) (to : Nat) (h4 : to % 4 = 0) (w : World) :
    Calls Tryd.prog 33 #[.agg h.cells, .int .u32 to] w fun e w' => e = .returned (.agg (H.cells ⟨to, h.x, h.wt, upCt h.c⟩)) ∧ Below w.heap.size w w' := by
  have t0 : ((to : Int) % 4 != 0) = false := by simp; omega
  have HD : Hid (Value.int .u64 ((((h.c.ct : Nat) : Int) + 1) % 18446744073709551616) = .int .u64 (((h.c.ct + 1) % 18446744073709551616 : Nat) : Int)) := hide (by congr 1)
  clear h4
  go_enter Tryd.func33, Tryd.ntmps33
  go_wp2_with (first | ((with_reducible refine bx_g w.heap.size h ?_ ?_ ?_); exact rfl; exact rfl; intro W hr hb hz) | ((with_reducible refine al_g (w.heap.size + 1) ?_ ?_); exact hz.out; intro W hq hb' hz'; obtain ⟨hr, hb⟩ := an1 hz hb' hr hb; replace hz := hz') | ((with_reducible refine ld_g w.heap.size _ hr ?_ ?_); exact rfl) | ((with_reducible refine st_gpc w.heap.size _ to hr ?_ ?_ ?_); exact rfl; exact rfl; intro W hnew ho; obtain ⟨hq, hb⟩ := on1 ho hq hb; replace hr := hnew) | ((with_reducible refine ld_gct w.heap.size _ hr ?_ ?_); exact rfl) | ((with_reducible refine st_gct w.heap.size _ ((h.c.ct + 1) % 18446744073709551616) hr ?_ ?_ ?_); exact rfl; exact HD.out; intro W hnew ho; obtain ⟨hq, hb⟩ := on1 ho hq hb; replace hr := hnew) | ((with_reducible refine st_g (w.heap.size + 1) _ ⟨to, h.x, h.wt, upCt h.c⟩ hq ?_ ?_ ?_); exact rfl; exact rfl; intro W hnew ho; obtain ⟨hr, hb⟩ := on1 ho hr hb; replace hq := hnew))
  refine bodyPost_ret (results_cell_row Tryd.results33 _ _ (w.heap.size + 1) _ _ _ _ rfl hq Tryd.underlying28 rfl size_g) rfl ?_
  exact ⟨rfl, hb⟩

set_option maxHeartbeats 1000000 in
theorem rto_no (h : H) (ok : h.Ok) (to : Nat) (h4 : ¬ to % 4 = 0) (w : World) :
    Calls Tryd.prog 33 #[.agg h.cells, .int .u32 to] w fun e w' => e = .returned (.agg (trapH h 0 to).cells) ∧ Below w.heap.size w w' := by
  have t0 : ((to : Int) % 4 != 0) = true := by simp; omega
  have HT := hide (fun w => rtrap8 h ok 0 to (by decide) w)
  rw [show (((0 : Nat) : Int)) = 0 from rfl] at HT
  clear h4
  go_enter Tryd.func33, Tryd.ntmps33
  go_wp2_with (first | ((with_reducible refine bx_g w.heap.size h ?_ ?_ ?_); exact rfl; exact rfl; intro W hr hb hz) | ((with_reducible refine al_g (w.heap.size + 1) ?_ ?_); exact hz.out; intro W hq hb' hz'; obtain ⟨hr, hb⟩ := an1 hz hb' hr hb; replace hz := hz') | ((with_reducible refine ld_g w.heap.size _ hr ?_ ?_); exact rfl) | (go_at_call 29; refine (HT.out _).mono ?_; rintro e W ⟨rfl, hbc⟩; obtain ⟨hr, hq, hb⟩ := bl2 hbc hr hq hb) | ((with_reducible refine st_g (w.heap.size + 1) _ (trapH h 0 to) hq ?_ ?_ ?_); exact rfl; exact rfl; intro W hnew ho; obtain ⟨hr, hb⟩ := on1 ho hr hb; replace hq := hnew))
  refine bodyPost_ret (results_cell_row Tryd.results33 _ _ (w.heap.size + 1) _ _ _ _ rfl hq Tryd.underlying28 rfl size_g) rfl ?_
  exact ⟨rfl, hb⟩

theorem rto_any (h : H) (ok : h.Ok) (to : Nat) (w : World) :
    Calls Tryd.prog 33 #[.agg h.cells, .int .u32 to] w fun e w' => e = .returned (.agg (goH h to).cells) ∧ Below w.heap.size w w' := by
  unfold goH; split
  · next h4 => exact rto_yes h to h4 w
  · next h4 => exact rto_no h ok to h4 w
set_option maxHeartbeats 1000000 in
theorem rwith_0 (h : H) (v : Nat) (w : World) :
    Calls Tryd.prog 34 #[.agg h.cells, .int .i64 0, .int .u32 v] w fun e w' => e = .returned (.agg h.cells) ∧ Below w.heap.size w w' := by
  go_enter Tryd.func34, Tryd.ntmps34
  go_wp2_with (first | ((with_reducible refine bx_g w.heap.size h ?_ ?_ ?_); exact rfl; exact rfl; intro W hr hb hz) | ((with_reducible refine al_g (w.heap.size + 1) ?_ ?_); exact hz.out; intro W hq hb' hz'; obtain ⟨hr, hb⟩ := an1 hz hb' hr hb; replace hz := hz') | ((with_reducible refine ld_g w.heap.size _ hr ?_ ?_); exact rfl) | ((with_reducible refine st_g (w.heap.size + 1) _ h hq ?_ ?_ ?_); exact rfl; exact rfl; intro W hnew ho; obtain ⟨hr, hb⟩ := on1 ho hr hb; replace hq := hnew))
  refine bodyPost_ret (results_cell_row Tryd.results34 _ _ (w.heap.size + 1) _ _ _ _ rfl hq Tryd.underlying28 rfl size_g) rfl ?_
  exact ⟨rfl, hb⟩

set_option maxHeartbeats 1000000 in
theorem rwith_r (h : H) (r : Nat) (hr0 : r ≠ 0) (hr1 : r < 32) (v : Nat) (w : World) :
    Calls Tryd.prog 34 #[.agg h.cells, .int .i64 r, .int .u32 v] w fun e w' => e = .returned (.agg (H.cells ⟨h.pc, setX h.x r v, h.wt, h.c⟩)) ∧ Below w.heap.size w w' := by
  have t0 : (0 : Int) < r := by omega
  have t1 : (0 : Int) ≤ r := by omega
  have t2 : (r : Int) < 32 := by omega
  go_enter Tryd.func34, Tryd.ntmps34
  go_wp2_with (first | ((with_reducible refine bx_g w.heap.size h ?_ ?_ ?_); exact rfl; exact rfl; intro W hr hb hz) | ((with_reducible refine al_g (w.heap.size + 1) ?_ ?_); exact hz.out; intro W hq hb' hz'; obtain ⟨hr, hb⟩ := an1 hz hb' hr hb; replace hz := hz') | ((with_reducible refine ld_g w.heap.size _ hr ?_ ?_); exact rfl) | ((with_reducible refine st_gx w.heap.size r _ v hr1 hr ?_ ?_ ?_); exact rfl; exact rfl; intro W hnew ho; obtain ⟨hq, hb⟩ := on1 ho hq hb; replace hr := hnew) | ((with_reducible refine st_g (w.heap.size + 1) _ ⟨h.pc, setX h.x r v, h.wt, h.c⟩ hq ?_ ?_ ?_); exact rfl; exact rfl; intro W hnew ho; obtain ⟨hr, hb⟩ := on1 ho hr hb; replace hq := hnew))
  refine bodyPost_ret (results_cell_row Tryd.results34 _ _ (w.heap.size + 1) _ _ _ _ rfl hq Tryd.underlying28 rfl size_g) rfl ?_
  exact ⟨rfl, hb⟩

theorem rwith_any (h : H) (r : Nat) (hr : r < 32) (v : Nat) (w : World) :
    Calls Tryd.prog 34 #[.agg h.cells, .int .i64 r, .int .u32 v] w fun e w' => e = .returned (.agg (writeH h r v).cells) ∧ Below w.heap.size w w' := by
  unfold writeH; split
  · next h0 => subst h0; exact rwith_0 h v w
  · next h0 => exact rwith_r h r h0 hr v w
end Go.Proofs.YtchjhpeogdkbmaaDoor
namespace Go.Proofs.YtchjhpeogdkbmaaDoor
open Go.RowKit
set_option linter.unusedVariables false

end Go.Proofs.YtchjhpeogdkbmaaDoor
namespace Go.Proofs.YtchjhpeogdkbmaaDoor
open Go.RowKit
set_option linter.unusedVariables false
variable {ops : Array Oper} {rest : List Oper} {dst : Option Tmp} {ty : TypeId} {pos : String} {after : Array Edge} {a : Act} {w : World} {Q : Exit → Act → World → Prop} {x y : Operand}
theorem bx_ri (N : Nat) (i : I6) (hN : w.heap.size = N) (hx : a.eval x = .agg i.cells)
    (k : ∀ W, RowAt W N i.cells 69 → Below N w W → Hid (W.heap.size = N + 1) → wpList Tryd.prog ops Q rest (a.put dst (.pointer (some ⟨N, 0, none⟩))) W) :
    wpList Tryd.prog ops Q (⟨dst, .box 69 x, ty, pos, after, none⟩ :: rest) a w := op_box N hN i.cells hx k
theorem bx_2 (N : Nat) (cs : Array Value) (hN : w.heap.size = N) (hx : a.eval x = .agg cs)
    (k : ∀ W, RowAt W N cs 85 → Below N w W → Hid (W.heap.size = N + 1) → wpList Tryd.prog ops Q rest (a.put dst (.pointer (some ⟨N, 0, none⟩))) W) :
    wpList Tryd.prog ops Q (⟨dst, .box 85 x, ty, pos, after, none⟩ :: rest) a w := op_box N hN cs hx k
end Go.Proofs.YtchjhpeogdkbmaaDoor
namespace Go.Proofs.YtchjhpeogdkbmaaDoor
open Go.RowKit
set_option linter.unusedVariables false
theorem I6.c1 (i : I6) : i.cells[1]? = some (.int .i64 i.rd) := rfl
theorem I6.c2 (i : I6) : i.cells[2]? = some (.int .i64 i.rs1) := rfl
theorem I6.c5 (i : I6) : i.cells[5]? = some (.int .i64 i.csr) := rfl
attribute [local go_sem] I6.c1 I6.c2 I6.c5

set_option maxHeartbeats 1000000 in
theorem rrest_lui (h : H) (ok : h.Ok) (op s1 s2 im cs : Int) (rd : Nat) (hrd : rd < 32) (a n : Nat) (ha : a < 4294967296) (hn : n < 4294967296) (w : World) :
    Calls Tryd.prog 37 #[.agg h.cells, .string ⟨#[108, 117, 105]⟩, .agg (I6.cells ⟨op, (rd : Nat), s1, s2, im, cs⟩), .agg #[.int .u32 (a : Nat), .int .u32 (n : Nat)]] w fun e w' => e = .returned (.agg (goH (writeH h rd n) ((h.pc + 4) % 4294967296)).cells) ∧ Below w.heap.size w w' := by
  have HW := hide (fun w => rwith_any h rd hrd n w)
  have HT := hide (fun w => rto_any _ (writeH_ok ok rd hn) ((h.pc + 4) % 4294967296) w)
  have e0 : (((h.pc + 4) % 4294967296 : Nat) : Int) = ((h.pc : Int) + 4) % 4294967296 := by omega
  rw [e0] at HT
  go_enter Tryd.func37, Tryd.ntmps37
  go_wp2_with (first | ((with_reducible refine bx_g w.heap.size h ?_ ?_ ?_); exact rfl; exact rfl; intro W hr hb hz) | ((with_reducible refine bx_ri (w.heap.size + 1) ⟨op, (rd : Nat), s1, s2, im, cs⟩ ?_ ?_ ?_); exact hz.out; exact rfl; intro W hi hb' hz'; obtain ⟨hr, hb⟩ := an1 hz hb' hr hb; replace hz := hz') | ((with_reducible refine bx_2 (w.heap.size + 2) #[.int .u32 (a : Nat), .int .u32 (n : Nat)] ?_ ?_ ?_); exact hz.out; exact rfl; intro W h2 hb' hz'; obtain ⟨hr, hi, hb⟩ := an2 hz hb' hr hi hb; replace hz := hz') | ((with_reducible refine al_g (w.heap.size + 3) ?_ ?_); exact hz.out; intro W hq hb' hz'; obtain ⟨hr, hi, h2, hb⟩ := an3 hz hb' hr hi h2 hb; replace hz := hz'; have fi := hi.cell; have f2 := h2.cell) | ((with_reducible refine ld_g w.heap.size _ hr ?_ ?_); exact rfl) | ((with_reducible refine ld_gpc w.heap.size _ hr ?_ ?_); exact rfl) | (go_at_call 34; refine (HW.out _).mono ?_; rintro e W ⟨rfl, hbc⟩; obtain ⟨hr, hi, h2, hq, hb⟩ := bl4 hbc hr hi h2 hq hb) | (go_at_call 33; refine (HT.out _).mono ?_; rintro e W ⟨rfl, hbc⟩; obtain ⟨hr, hi, h2, hq, hb⟩ := bl4 hbc hr hi h2 hq hb) | ((with_reducible refine st_g (w.heap.size + 3) _ (goH (writeH h rd n) ((h.pc + 4) % 4294967296)) hq ?_ ?_ ?_); exact rfl; exact rfl; intro W hnew ho; obtain ⟨hr, hi, h2, hb⟩ := on3 ho hr hi h2 hb; replace hq := hnew))
  refine bodyPost_ret (results_cell_row Tryd.results37 _ _ (w.heap.size + 3) _ _ _ _ rfl hq Tryd.underlying28 rfl size_g) rfl ?_
  exact ⟨rfl, hb⟩

set_option maxHeartbeats 1000000 in
theorem rrest_auipc (h : H) (ok : h.Ok) (op s1 s2 im cs : Int) (rd : Nat) (hrd : rd < 32) (a n : Nat) (ha : a < 4294967296) (hn : n < 4294967296) (w : World) :
    Calls Tryd.prog 37 #[.agg h.cells, .string ⟨#[97, 117, 105, 112, 99]⟩, .agg (I6.cells ⟨op, (rd : Nat), s1, s2, im, cs⟩), .agg #[.int .u32 (a : Nat), .int .u32 (n : Nat)]] w fun e w' => e = .returned (.agg (goH (writeH h rd ((h.pc + n) % 4294967296)) ((h.pc + 4) % 4294967296)).cells) ∧ Below w.heap.size w w' := by
  have HW := hide (fun w => rwith_any h rd hrd ((h.pc + n) % 4294967296) w)
  have HT := hide (fun w => rto_any _ (writeH_ok ok rd (Nat.mod_lt (h.pc + n) (by decide : 0 < 4294967296))) ((h.pc + 4) % 4294967296) w)
  have e0 : (((h.pc + 4) % 4294967296 : Nat) : Int) = ((h.pc : Int) + 4) % 4294967296 := by omega
  have e1 : (((h.pc + n) % 4294967296 : Nat) : Int) = ((h.pc : Int) + n) % 4294967296 := by omega
  rw [e0] at HT
  rw [e1] at HW
  go_enter Tryd.func37, Tryd.ntmps37
  go_wp2_with (first | ((with_reducible refine bx_g w.heap.size h ?_ ?_ ?_); exact rfl; exact rfl; intro W hr hb hz) | ((with_reducible refine bx_ri (w.heap.size + 1) ⟨op, (rd : Nat), s1, s2, im, cs⟩ ?_ ?_ ?_); exact hz.out; exact rfl; intro W hi hb' hz'; obtain ⟨hr, hb⟩ := an1 hz hb' hr hb; replace hz := hz') | ((with_reducible refine bx_2 (w.heap.size + 2) #[.int .u32 (a : Nat), .int .u32 (n : Nat)] ?_ ?_ ?_); exact hz.out; exact rfl; intro W h2 hb' hz'; obtain ⟨hr, hi, hb⟩ := an2 hz hb' hr hi hb; replace hz := hz') | ((with_reducible refine al_g (w.heap.size + 3) ?_ ?_); exact hz.out; intro W hq hb' hz'; obtain ⟨hr, hi, h2, hb⟩ := an3 hz hb' hr hi h2 hb; replace hz := hz'; have fi := hi.cell; have f2 := h2.cell) | ((with_reducible refine ld_g w.heap.size _ hr ?_ ?_); exact rfl) | ((with_reducible refine ld_gpc w.heap.size _ hr ?_ ?_); exact rfl) | (go_at_call 34; refine (HW.out _).mono ?_; rintro e W ⟨rfl, hbc⟩; obtain ⟨hr, hi, h2, hq, hb⟩ := bl4 hbc hr hi h2 hq hb) | (go_at_call 33; refine (HT.out _).mono ?_; rintro e W ⟨rfl, hbc⟩; obtain ⟨hr, hi, h2, hq, hb⟩ := bl4 hbc hr hi h2 hq hb) | ((with_reducible refine st_g (w.heap.size + 3) _ (goH (writeH h rd ((h.pc + n) % 4294967296)) ((h.pc + 4) % 4294967296)) hq ?_ ?_ ?_); exact rfl; exact rfl; intro W hnew ho; obtain ⟨hr, hi, h2, hb⟩ := on3 ho hr hi h2 hb; replace hq := hnew))
  refine bodyPost_ret (results_cell_row Tryd.results37 _ _ (w.heap.size + 3) _ _ _ _ rfl hq Tryd.underlying28 rfl size_g) rfl ?_
  exact ⟨rfl, hb⟩

set_option maxHeartbeats 1000000 in
theorem rrest_jal_no (h : H) (ok : h.Ok) (op s1 s2 im cs : Int) (rd : Nat) (hrd : rd < 32) (a n : Nat) (ha : a < 4294967296) (hn : n < 4294967296) (h4 : ¬ ((h.pc + n) % 4294967296) % 4 = 0) (w : World) :
    Calls Tryd.prog 37 #[.agg h.cells, .string ⟨#[106, 97, 108]⟩, .agg (I6.cells ⟨op, (rd : Nat), s1, s2, im, cs⟩), .agg #[.int .u32 (a : Nat), .int .u32 (n : Nat)]] w fun e w' => e = .returned (.agg (trapH h 0 ((h.pc + n) % 4294967296)).cells) ∧ Below w.heap.size w w' := by
  have e1 : ((((h.pc + n) % 4294967296) : Nat) : Int) = ((h.pc : Int) + n) % 4294967296 := by omega
  have t0 : ((((h.pc : Int) + n) % 4294967296) % 4 != 0) = true := by simp; omega
  have HX := hide (fun w => rtrap8 h ok 0 ((h.pc + n) % 4294967296) (by decide) w)
  rw [show (((0 : Nat) : Int)) = 0 from rfl, e1] at HX
  clear h4
  go_enter Tryd.func37, Tryd.ntmps37
  go_wp2_with (first | ((with_reducible refine bx_g w.heap.size h ?_ ?_ ?_); exact rfl; exact rfl; intro W hr hb hz) | ((with_reducible refine bx_ri (w.heap.size + 1) ⟨op, (rd : Nat), s1, s2, im, cs⟩ ?_ ?_ ?_); exact hz.out; exact rfl; intro W hi hb' hz'; obtain ⟨hr, hb⟩ := an1 hz hb' hr hb; replace hz := hz') | ((with_reducible refine bx_2 (w.heap.size + 2) #[.int .u32 (a : Nat), .int .u32 (n : Nat)] ?_ ?_ ?_); exact hz.out; exact rfl; intro W h2 hb' hz'; obtain ⟨hr, hi, hb⟩ := an2 hz hb' hr hi hb; replace hz := hz') | ((with_reducible refine al_g (w.heap.size + 3) ?_ ?_); exact hz.out; intro W hq hb' hz'; obtain ⟨hr, hi, h2, hb⟩ := an3 hz hb' hr hi h2 hb; replace hz := hz'; have fi := hi.cell; have f2 := h2.cell) | ((with_reducible refine ld_g w.heap.size _ hr ?_ ?_); exact rfl) | ((with_reducible refine ld_gpc w.heap.size _ hr ?_ ?_); exact rfl) | (go_at_call 29; refine (HX.out _).mono ?_; rintro e W ⟨rfl, hbc⟩; obtain ⟨hr, hi, h2, hq, hb⟩ := bl4 hbc hr hi h2 hq hb) | ((with_reducible refine st_g (w.heap.size + 3) _ (trapH h 0 ((h.pc + n) % 4294967296)) hq ?_ ?_ ?_); exact rfl; exact rfl; intro W hnew ho; obtain ⟨hr, hi, h2, hb⟩ := on3 ho hr hi h2 hb; replace hq := hnew))
  refine bodyPost_ret (results_cell_row Tryd.results37 _ _ (w.heap.size + 3) _ _ _ _ rfl hq Tryd.underlying28 rfl size_g) rfl ?_
  exact ⟨rfl, hb⟩

set_option maxHeartbeats 1000000 in
theorem rrest_jal_yes (h : H) (ok : h.Ok) (op s1 s2 im cs : Int) (rd : Nat) (hrd : rd < 32) (a n : Nat) (ha : a < 4294967296) (hn : n < 4294967296) (h4 : ((h.pc + n) % 4294967296) % 4 = 0) (w : World) :
    Calls Tryd.prog 37 #[.agg h.cells, .string ⟨#[106, 97, 108]⟩, .agg (I6.cells ⟨op, (rd : Nat), s1, s2, im, cs⟩), .agg #[.int .u32 (a : Nat), .int .u32 (n : Nat)]] w fun e w' => e = .returned (.agg (goH (writeH h rd ((h.pc + 4) % 4294967296)) ((h.pc + n) % 4294967296)).cells) ∧ Below w.heap.size w w' := by
  have e1 : ((((h.pc + n) % 4294967296) : Nat) : Int) = ((h.pc : Int) + n) % 4294967296 := by omega
  have e0 : (((h.pc + 4) % 4294967296 : Nat) : Int) = ((h.pc : Int) + 4) % 4294967296 := by omega
  have t0 : ((((h.pc : Int) + n) % 4294967296) % 4 != 0) = false := by simp; omega
  have HW := hide (fun w => rwith_any h rd hrd ((h.pc + 4) % 4294967296) w)
  have HT := hide (fun w => rto_any _ (writeH_ok ok rd (Nat.mod_lt (h.pc + 4) (by decide : 0 < 4294967296))) ((h.pc + n) % 4294967296) w)
  rw [e0] at HW
  rw [e1] at HT
  clear h4
  go_enter Tryd.func37, Tryd.ntmps37
  go_wp2_with (first | ((with_reducible refine bx_g w.heap.size h ?_ ?_ ?_); exact rfl; exact rfl; intro W hr hb hz) | ((with_reducible refine bx_ri (w.heap.size + 1) ⟨op, (rd : Nat), s1, s2, im, cs⟩ ?_ ?_ ?_); exact hz.out; exact rfl; intro W hi hb' hz'; obtain ⟨hr, hb⟩ := an1 hz hb' hr hb; replace hz := hz') | ((with_reducible refine bx_2 (w.heap.size + 2) #[.int .u32 (a : Nat), .int .u32 (n : Nat)] ?_ ?_ ?_); exact hz.out; exact rfl; intro W h2 hb' hz'; obtain ⟨hr, hi, hb⟩ := an2 hz hb' hr hi hb; replace hz := hz') | ((with_reducible refine al_g (w.heap.size + 3) ?_ ?_); exact hz.out; intro W hq hb' hz'; obtain ⟨hr, hi, h2, hb⟩ := an3 hz hb' hr hi h2 hb; replace hz := hz'; have fi := hi.cell; have f2 := h2.cell) | ((with_reducible refine ld_g w.heap.size _ hr ?_ ?_); exact rfl) | ((with_reducible refine ld_gpc w.heap.size _ hr ?_ ?_); exact rfl) | (go_at_call 34; refine (HW.out _).mono ?_; rintro e W ⟨rfl, hbc⟩; obtain ⟨hr, hi, h2, hq, hb⟩ := bl4 hbc hr hi h2 hq hb) | (go_at_call 33; refine (HT.out _).mono ?_; rintro e W ⟨rfl, hbc⟩; obtain ⟨hr, hi, h2, hq, hb⟩ := bl4 hbc hr hi h2 hq hb) | ((with_reducible refine st_g (w.heap.size + 3) _ (goH (writeH h rd ((h.pc + 4) % 4294967296)) ((h.pc + n) % 4294967296)) hq ?_ ?_ ?_); exact rfl; exact rfl; intro W hnew ho; obtain ⟨hr, hi, h2, hb⟩ := on3 ho hr hi h2 hb; replace hq := hnew))
  refine bodyPost_ret (results_cell_row Tryd.results37 _ _ (w.heap.size + 3) _ _ _ _ rfl hq Tryd.underlying28 rfl size_g) rfl ?_
  exact ⟨rfl, hb⟩

set_option maxHeartbeats 1000000 in
theorem rrest_jalr_no (h : H) (ok : h.Ok) (op s1 s2 im cs : Int) (rd : Nat) (hrd : rd < 32) (a n : Nat) (ha : a < 4294967296) (hn : n < 4294967296) (h4 : ¬ ((a + n) % 4294967296 / 2 * 2) % 4 = 0) (w : World) :
    Calls Tryd.prog 37 #[.agg h.cells, .string ⟨#[106, 97, 108, 114]⟩, .agg (I6.cells ⟨op, (rd : Nat), s1, s2, im, cs⟩), .agg #[.int .u32 (a : Nat), .int .u32 (n : Nat)]] w fun e w' => e = .returned (.agg (trapH h 0 ((a + n) % 4294967296 / 2 * 2)).cells) ∧ Below w.heap.size w w' := by
  have e1 : ((((a + n) % 4294967296 / 2 * 2) : Nat) : Int) = ((a : Int) + n) % 4294967296 / 2 * 2 := by omega
  have t0 : ((((a : Int) + n) % 4294967296 / 2 * 2) % 4 != 0) = true := by simp; omega
  have HX := hide (fun w => rtrap8 h ok 0 ((a + n) % 4294967296 / 2 * 2) (by decide) w)
  rw [show (((0 : Nat) : Int)) = 0 from rfl, e1] at HX
  clear h4
  go_enter Tryd.func37, Tryd.ntmps37
  go_wp2_with (first | ((with_reducible refine bx_g w.heap.size h ?_ ?_ ?_); exact rfl; exact rfl; intro W hr hb hz) | ((with_reducible refine bx_ri (w.heap.size + 1) ⟨op, (rd : Nat), s1, s2, im, cs⟩ ?_ ?_ ?_); exact hz.out; exact rfl; intro W hi hb' hz'; obtain ⟨hr, hb⟩ := an1 hz hb' hr hb; replace hz := hz') | ((with_reducible refine bx_2 (w.heap.size + 2) #[.int .u32 (a : Nat), .int .u32 (n : Nat)] ?_ ?_ ?_); exact hz.out; exact rfl; intro W h2 hb' hz'; obtain ⟨hr, hi, hb⟩ := an2 hz hb' hr hi hb; replace hz := hz') | ((with_reducible refine al_g (w.heap.size + 3) ?_ ?_); exact hz.out; intro W hq hb' hz'; obtain ⟨hr, hi, h2, hb⟩ := an3 hz hb' hr hi h2 hb; replace hz := hz'; have fi := hi.cell; have f2 := h2.cell) | ((with_reducible refine ld_g w.heap.size _ hr ?_ ?_); exact rfl) | ((with_reducible refine ld_gpc w.heap.size _ hr ?_ ?_); exact rfl) | (go_at_call 29; refine (HX.out _).mono ?_; rintro e W ⟨rfl, hbc⟩; obtain ⟨hr, hi, h2, hq, hb⟩ := bl4 hbc hr hi h2 hq hb) | ((with_reducible refine st_g (w.heap.size + 3) _ (trapH h 0 ((a + n) % 4294967296 / 2 * 2)) hq ?_ ?_ ?_); exact rfl; exact rfl; intro W hnew ho; obtain ⟨hr, hi, h2, hb⟩ := on3 ho hr hi h2 hb; replace hq := hnew))
  refine bodyPost_ret (results_cell_row Tryd.results37 _ _ (w.heap.size + 3) _ _ _ _ rfl hq Tryd.underlying28 rfl size_g) rfl ?_
  exact ⟨rfl, hb⟩

set_option maxHeartbeats 1000000 in
theorem rrest_jalr_yes (h : H) (ok : h.Ok) (op s1 s2 im cs : Int) (rd : Nat) (hrd : rd < 32) (a n : Nat) (ha : a < 4294967296) (hn : n < 4294967296) (h4 : ((a + n) % 4294967296 / 2 * 2) % 4 = 0) (w : World) :
    Calls Tryd.prog 37 #[.agg h.cells, .string ⟨#[106, 97, 108, 114]⟩, .agg (I6.cells ⟨op, (rd : Nat), s1, s2, im, cs⟩), .agg #[.int .u32 (a : Nat), .int .u32 (n : Nat)]] w fun e w' => e = .returned (.agg (goH (writeH h rd ((h.pc + 4) % 4294967296)) ((a + n) % 4294967296 / 2 * 2)).cells) ∧ Below w.heap.size w w' := by
  have e1 : ((((a + n) % 4294967296 / 2 * 2) : Nat) : Int) = ((a : Int) + n) % 4294967296 / 2 * 2 := by omega
  have e0 : (((h.pc + 4) % 4294967296 : Nat) : Int) = ((h.pc : Int) + 4) % 4294967296 := by omega
  have t0 : ((((a : Int) + n) % 4294967296 / 2 * 2) % 4 != 0) = false := by simp; omega
  have HW := hide (fun w => rwith_any h rd hrd ((h.pc + 4) % 4294967296) w)
  have HT := hide (fun w => rto_any _ (writeH_ok ok rd (Nat.mod_lt (h.pc + 4) (by decide : 0 < 4294967296))) ((a + n) % 4294967296 / 2 * 2) w)
  rw [e0] at HW
  rw [e1] at HT
  clear h4
  go_enter Tryd.func37, Tryd.ntmps37
  go_wp2_with (first | ((with_reducible refine bx_g w.heap.size h ?_ ?_ ?_); exact rfl; exact rfl; intro W hr hb hz) | ((with_reducible refine bx_ri (w.heap.size + 1) ⟨op, (rd : Nat), s1, s2, im, cs⟩ ?_ ?_ ?_); exact hz.out; exact rfl; intro W hi hb' hz'; obtain ⟨hr, hb⟩ := an1 hz hb' hr hb; replace hz := hz') | ((with_reducible refine bx_2 (w.heap.size + 2) #[.int .u32 (a : Nat), .int .u32 (n : Nat)] ?_ ?_ ?_); exact hz.out; exact rfl; intro W h2 hb' hz'; obtain ⟨hr, hi, hb⟩ := an2 hz hb' hr hi hb; replace hz := hz') | ((with_reducible refine al_g (w.heap.size + 3) ?_ ?_); exact hz.out; intro W hq hb' hz'; obtain ⟨hr, hi, h2, hb⟩ := an3 hz hb' hr hi h2 hb; replace hz := hz'; have fi := hi.cell; have f2 := h2.cell) | ((with_reducible refine ld_g w.heap.size _ hr ?_ ?_); exact rfl) | ((with_reducible refine ld_gpc w.heap.size _ hr ?_ ?_); exact rfl) | (go_at_call 34; refine (HW.out _).mono ?_; rintro e W ⟨rfl, hbc⟩; obtain ⟨hr, hi, h2, hq, hb⟩ := bl4 hbc hr hi h2 hq hb) | (go_at_call 33; refine (HT.out _).mono ?_; rintro e W ⟨rfl, hbc⟩; obtain ⟨hr, hi, h2, hq, hb⟩ := bl4 hbc hr hi h2 hq hb) | ((with_reducible refine st_g (w.heap.size + 3) _ (goH (writeH h rd ((h.pc + 4) % 4294967296)) ((a + n) % 4294967296 / 2 * 2)) hq ?_ ?_ ?_); exact rfl; exact rfl; intro W hnew ho; obtain ⟨hr, hi, h2, hb⟩ := on3 ho hr hi h2 hb; replace hq := hnew))
  refine bodyPost_ret (results_cell_row Tryd.results37 _ _ (w.heap.size + 3) _ _ _ _ rfl hq Tryd.underlying28 rfl size_g) rfl ?_
  exact ⟨rfl, hb⟩

set_option maxHeartbeats 1000000 in
theorem rrest_ecall (h : H) (ok : h.Ok) (op s1 s2 im cs : Int) (rd : Nat) (hrd : rd < 32) (a n : Nat) (ha : a < 4294967296) (hn : n < 4294967296) (w : World) :
    Calls Tryd.prog 37 #[.agg h.cells, .string ⟨#[101, 99, 97, 108, 108]⟩, .agg (I6.cells ⟨op, (rd : Nat), s1, s2, im, cs⟩), .agg #[.int .u32 (a : Nat), .int .u32 (n : Nat)]] w fun e w' => e = .returned (.agg (trapH h 11 0).cells) ∧ Below w.heap.size w w' := by
  have HX := hide (fun w => rtrap8 h ok 11 0 (by decide) w)
  rw [show (((0 : Nat) : Int)) = 0 from rfl, show (((11 : Nat) : Int)) = 11 from rfl] at HX
  go_enter Tryd.func37, Tryd.ntmps37
  go_wp2_with (first | ((with_reducible refine bx_g w.heap.size h ?_ ?_ ?_); exact rfl; exact rfl; intro W hr hb hz) | ((with_reducible refine bx_ri (w.heap.size + 1) ⟨op, (rd : Nat), s1, s2, im, cs⟩ ?_ ?_ ?_); exact hz.out; exact rfl; intro W hi hb' hz'; obtain ⟨hr, hb⟩ := an1 hz hb' hr hb; replace hz := hz') | ((with_reducible refine bx_2 (w.heap.size + 2) #[.int .u32 (a : Nat), .int .u32 (n : Nat)] ?_ ?_ ?_); exact hz.out; exact rfl; intro W h2 hb' hz'; obtain ⟨hr, hi, hb⟩ := an2 hz hb' hr hi hb; replace hz := hz') | ((with_reducible refine al_g (w.heap.size + 3) ?_ ?_); exact hz.out; intro W hq hb' hz'; obtain ⟨hr, hi, h2, hb⟩ := an3 hz hb' hr hi h2 hb; replace hz := hz'; have fi := hi.cell; have f2 := h2.cell) | ((with_reducible refine ld_g w.heap.size _ hr ?_ ?_); exact rfl) | ((with_reducible refine ld_gpc w.heap.size _ hr ?_ ?_); exact rfl) | (go_at_call 29; refine (HX.out _).mono ?_; rintro e W ⟨rfl, hbc⟩; obtain ⟨hr, hi, h2, hq, hb⟩ := bl4 hbc hr hi h2 hq hb) | ((with_reducible refine st_g (w.heap.size + 3) _ (trapH h 11 0) hq ?_ ?_ ?_); exact rfl; exact rfl; intro W hnew ho; obtain ⟨hr, hi, h2, hb⟩ := on3 ho hr hi h2 hb; replace hq := hnew))
  refine bodyPost_ret (results_cell_row Tryd.results37 _ _ (w.heap.size + 3) _ _ _ _ rfl hq Tryd.underlying28 rfl size_g) rfl ?_
  exact ⟨rfl, hb⟩

set_option maxHeartbeats 1000000 in
theorem rrest_ebreak (h : H) (ok : h.Ok) (op s1 s2 im cs : Int) (rd : Nat) (hrd : rd < 32) (a n : Nat) (ha : a < 4294967296) (hn : n < 4294967296) (w : World) :
    Calls Tryd.prog 37 #[.agg h.cells, .string ⟨#[101, 98, 114, 101, 97, 107]⟩, .agg (I6.cells ⟨op, (rd : Nat), s1, s2, im, cs⟩), .agg #[.int .u32 (a : Nat), .int .u32 (n : Nat)]] w fun e w' => e = .returned (.agg (trapH h 3 h.pc).cells) ∧ Below w.heap.size w w' := by
  have HX := hide (fun w => rtrap8 h ok 3 h.pc (by decide) w)
  rw [show (((3 : Nat) : Int)) = 3 from rfl] at HX
  go_enter Tryd.func37, Tryd.ntmps37
  go_wp2_with (first | ((with_reducible refine bx_g w.heap.size h ?_ ?_ ?_); exact rfl; exact rfl; intro W hr hb hz) | ((with_reducible refine bx_ri (w.heap.size + 1) ⟨op, (rd : Nat), s1, s2, im, cs⟩ ?_ ?_ ?_); exact hz.out; exact rfl; intro W hi hb' hz'; obtain ⟨hr, hb⟩ := an1 hz hb' hr hb; replace hz := hz') | ((with_reducible refine bx_2 (w.heap.size + 2) #[.int .u32 (a : Nat), .int .u32 (n : Nat)] ?_ ?_ ?_); exact hz.out; exact rfl; intro W h2 hb' hz'; obtain ⟨hr, hi, hb⟩ := an2 hz hb' hr hi hb; replace hz := hz') | ((with_reducible refine al_g (w.heap.size + 3) ?_ ?_); exact hz.out; intro W hq hb' hz'; obtain ⟨hr, hi, h2, hb⟩ := an3 hz hb' hr hi h2 hb; replace hz := hz'; have fi := hi.cell; have f2 := h2.cell) | ((with_reducible refine ld_g w.heap.size _ hr ?_ ?_); exact rfl) | ((with_reducible refine ld_gpc w.heap.size _ hr ?_ ?_); exact rfl) | (go_at_call 29; refine (HX.out _).mono ?_; rintro e W ⟨rfl, hbc⟩; obtain ⟨hr, hi, h2, hq, hb⟩ := bl4 hbc hr hi h2 hq hb) | ((with_reducible refine st_g (w.heap.size + 3) _ (trapH h 3 h.pc) hq ?_ ?_ ?_); exact rfl; exact rfl; intro W hnew ho; obtain ⟨hr, hi, h2, hb⟩ := on3 ho hr hi h2 hb; replace hq := hnew))
  refine bodyPost_ret (results_cell_row Tryd.results37 _ _ (w.heap.size + 3) _ _ _ _ rfl hq Tryd.underlying28 rfl size_g) rfl ?_
  exact ⟨rfl, hb⟩

set_option maxHeartbeats 1000000 in
theorem rrest_wfi (h : H) (ok : h.Ok) (op s1 s2 im cs : Int) (rd : Nat) (hrd : rd < 32) (a n : Nat) (ha : a < 4294967296) (hn : n < 4294967296) (w : World) :
    Calls Tryd.prog 37 #[.agg h.cells, .string ⟨#[119, 102, 105]⟩, .agg (I6.cells ⟨op, (rd : Nat), s1, s2, im, cs⟩), .agg #[.int .u32 (a : Nat), .int .u32 (n : Nat)]] w fun e w' => e = .returned (.agg (goH ⟨h.pc, h.x, true, h.c⟩ ((h.pc + 4) % 4294967296)).cells) ∧ Below w.heap.size w w' := by
  have HT := hide (fun w => rto_any ⟨h.pc, h.x, true, h.c⟩ ⟨ok.pc, ok.x, ok.c⟩ ((h.pc + 4) % 4294967296) w)
  have e0 : (((h.pc + 4) % 4294967296 : Nat) : Int) = ((h.pc : Int) + 4) % 4294967296 := by omega
  rw [e0] at HT
  go_enter Tryd.func37, Tryd.ntmps37
  go_wp2_with (first | ((with_reducible refine bx_g w.heap.size h ?_ ?_ ?_); exact rfl; exact rfl; intro W hr hb hz) | ((with_reducible refine bx_ri (w.heap.size + 1) ⟨op, (rd : Nat), s1, s2, im, cs⟩ ?_ ?_ ?_); exact hz.out; exact rfl; intro W hi hb' hz'; obtain ⟨hr, hb⟩ := an1 hz hb' hr hb; replace hz := hz') | ((with_reducible refine bx_2 (w.heap.size + 2) #[.int .u32 (a : Nat), .int .u32 (n : Nat)] ?_ ?_ ?_); exact hz.out; exact rfl; intro W h2 hb' hz'; obtain ⟨hr, hi, hb⟩ := an2 hz hb' hr hi hb; replace hz := hz') | ((with_reducible refine al_g (w.heap.size + 3) ?_ ?_); exact hz.out; intro W hq hb' hz'; obtain ⟨hr, hi, h2, hb⟩ := an3 hz hb' hr hi h2 hb; replace hz := hz'; have fi := hi.cell; have f2 := h2.cell) | ((with_reducible refine ld_g w.heap.size _ hr ?_ ?_); exact rfl) | ((with_reducible refine ld_gpc w.heap.size _ hr ?_ ?_); exact rfl) | ((with_reducible refine st_gwt w.heap.size _ true hr ?_ ?_ ?_); exact rfl; exact rfl; intro W hnew ho; obtain ⟨hi, h2, hq, hb⟩ := on3 ho hi h2 hq hb; replace hr := hnew) | (go_at_call 33; refine (HT.out _).mono ?_; rintro e W ⟨rfl, hbc⟩; obtain ⟨hr, hi, h2, hq, hb⟩ := bl4 hbc hr hi h2 hq hb) | ((with_reducible refine st_g (w.heap.size + 3) _ (goH ⟨h.pc, h.x, true, h.c⟩ ((h.pc + 4) % 4294967296)) hq ?_ ?_ ?_); exact rfl; exact rfl; intro W hnew ho; obtain ⟨hr, hi, h2, hb⟩ := on3 ho hr hi h2 hb; replace hq := hnew))
  refine bodyPost_ret (results_cell_row Tryd.results37 _ _ (w.heap.size + 3) _ _ _ _ rfl hq Tryd.underlying28 rfl size_g) rfl ?_
  exact ⟨rfl, hb⟩

set_option maxHeartbeats 1000000 in
theorem rrest_fence (h : H) (ok : h.Ok) (op s1 s2 im cs : Int) (rd : Nat) (hrd : rd < 32) (a n : Nat) (ha : a < 4294967296) (hn : n < 4294967296) (w : World) :
    Calls Tryd.prog 37 #[.agg h.cells, .string ⟨#[102, 101, 110, 99, 101]⟩, .agg (I6.cells ⟨op, (rd : Nat), s1, s2, im, cs⟩), .agg #[.int .u32 (a : Nat), .int .u32 (n : Nat)]] w fun e w' => e = .returned (.agg (goH h ((h.pc + 4) % 4294967296)).cells) ∧ Below w.heap.size w w' := by
  have HT := hide (fun w => rto_any h ok ((h.pc + 4) % 4294967296) w)
  have e0 : (((h.pc + 4) % 4294967296 : Nat) : Int) = ((h.pc : Int) + 4) % 4294967296 := by omega
  rw [e0] at HT
  go_enter Tryd.func37, Tryd.ntmps37
  go_wp2_with (first | ((with_reducible refine bx_g w.heap.size h ?_ ?_ ?_); exact rfl; exact rfl; intro W hr hb hz) | ((with_reducible refine bx_ri (w.heap.size + 1) ⟨op, (rd : Nat), s1, s2, im, cs⟩ ?_ ?_ ?_); exact hz.out; exact rfl; intro W hi hb' hz'; obtain ⟨hr, hb⟩ := an1 hz hb' hr hb; replace hz := hz') | ((with_reducible refine bx_2 (w.heap.size + 2) #[.int .u32 (a : Nat), .int .u32 (n : Nat)] ?_ ?_ ?_); exact hz.out; exact rfl; intro W h2 hb' hz'; obtain ⟨hr, hi, hb⟩ := an2 hz hb' hr hi hb; replace hz := hz') | ((with_reducible refine al_g (w.heap.size + 3) ?_ ?_); exact hz.out; intro W hq hb' hz'; obtain ⟨hr, hi, h2, hb⟩ := an3 hz hb' hr hi h2 hb; replace hz := hz'; have fi := hi.cell; have f2 := h2.cell) | ((with_reducible refine ld_g w.heap.size _ hr ?_ ?_); exact rfl) | ((with_reducible refine ld_gpc w.heap.size _ hr ?_ ?_); exact rfl) | (go_at_call 33; refine (HT.out _).mono ?_; rintro e W ⟨rfl, hbc⟩; obtain ⟨hr, hi, h2, hq, hb⟩ := bl4 hbc hr hi h2 hq hb) | ((with_reducible refine st_g (w.heap.size + 3) _ (goH h ((h.pc + 4) % 4294967296)) hq ?_ ?_ ?_); exact rfl; exact rfl; intro W hnew ho; obtain ⟨hr, hi, h2, hb⟩ := on3 ho hr hi h2 hb; replace hq := hnew))
  refine bodyPost_ret (results_cell_row Tryd.results37 _ _ (w.heap.size + 3) _ _ _ _ rfl hq Tryd.underlying28 rfl size_g) rfl ?_
  exact ⟨rfl, hb⟩

set_option maxHeartbeats 1000000 in
theorem rrest_fencei (h : H) (ok : h.Ok) (op s1 s2 im cs : Int) (rd : Nat) (hrd : rd < 32) (a n : Nat) (ha : a < 4294967296) (hn : n < 4294967296) (w : World) :
    Calls Tryd.prog 37 #[.agg h.cells, .string ⟨#[102, 101, 110, 99, 101, 46, 105]⟩, .agg (I6.cells ⟨op, (rd : Nat), s1, s2, im, cs⟩), .agg #[.int .u32 (a : Nat), .int .u32 (n : Nat)]] w fun e w' => e = .returned (.agg (goH h ((h.pc + 4) % 4294967296)).cells) ∧ Below w.heap.size w w' := by
  have HT := hide (fun w => rto_any h ok ((h.pc + 4) % 4294967296) w)
  have e0 : (((h.pc + 4) % 4294967296 : Nat) : Int) = ((h.pc : Int) + 4) % 4294967296 := by omega
  rw [e0] at HT
  go_enter Tryd.func37, Tryd.ntmps37
  go_wp2_with (first | ((with_reducible refine bx_g w.heap.size h ?_ ?_ ?_); exact rfl; exact rfl; intro W hr hb hz) | ((with_reducible refine bx_ri (w.heap.size + 1) ⟨op, (rd : Nat), s1, s2, im, cs⟩ ?_ ?_ ?_); exact hz.out; exact rfl; intro W hi hb' hz'; obtain ⟨hr, hb⟩ := an1 hz hb' hr hb; replace hz := hz') | ((with_reducible refine bx_2 (w.heap.size + 2) #[.int .u32 (a : Nat), .int .u32 (n : Nat)] ?_ ?_ ?_); exact hz.out; exact rfl; intro W h2 hb' hz'; obtain ⟨hr, hi, hb⟩ := an2 hz hb' hr hi hb; replace hz := hz') | ((with_reducible refine al_g (w.heap.size + 3) ?_ ?_); exact hz.out; intro W hq hb' hz'; obtain ⟨hr, hi, h2, hb⟩ := an3 hz hb' hr hi h2 hb; replace hz := hz'; have fi := hi.cell; have f2 := h2.cell) | ((with_reducible refine ld_g w.heap.size _ hr ?_ ?_); exact rfl) | ((with_reducible refine ld_gpc w.heap.size _ hr ?_ ?_); exact rfl) | (go_at_call 33; refine (HT.out _).mono ?_; rintro e W ⟨rfl, hbc⟩; obtain ⟨hr, hi, h2, hq, hb⟩ := bl4 hbc hr hi h2 hq hb) | ((with_reducible refine st_g (w.heap.size + 3) _ (goH h ((h.pc + 4) % 4294967296)) hq ?_ ?_ ?_); exact rfl; exact rfl; intro W hnew ho; obtain ⟨hr, hi, h2, hb⟩ := on3 ho hr hi h2 hb; replace hq := hnew))
  refine bodyPost_ret (results_cell_row Tryd.results37 _ _ (w.heap.size + 3) _ _ _ _ rfl hq Tryd.underlying28 rfl size_g) rfl ?_
  exact ⟨rfl, hb⟩

set_option maxHeartbeats 1000000 in
theorem rrest_mret (h : H) (ok : h.Ok) (op s1 s2 im cs : Int) (rd : Nat) (hrd : rd < 32) (a n : Nat) (ha : a < 4294967296) (hn : n < 4294967296) (w : World) :
    Calls Tryd.prog 37 #[.agg h.cells, .string ⟨#[109, 114, 101, 116]⟩, .agg (I6.cells ⟨op, (rd : Nat), s1, s2, im, cs⟩), .agg #[.int .u32 (a : Nat), .int .u32 (n : Nat)]] w fun e w' => e = .returned (.agg (goH (withC h (retN h.c)) h.c.ep).cells) ∧ Below w.heap.size w w' := by
  have HR := hide (fun w => rreturn_any h.c ok.c w)
  have HT := hide (fun w => rto_any (withC h (retN h.c)) ⟨ok.pc, ok.x, retN_ok ok.c⟩ h.c.ep w)
  go_enter Tryd.func37, Tryd.ntmps37
  go_wp2_with (first | ((with_reducible refine bx_g w.heap.size h ?_ ?_ ?_); exact rfl; exact rfl; intro W hr hb hz) | ((with_reducible refine bx_ri (w.heap.size + 1) ⟨op, (rd : Nat), s1, s2, im, cs⟩ ?_ ?_ ?_); exact hz.out; exact rfl; intro W hi hb' hz'; obtain ⟨hr, hb⟩ := an1 hz hb' hr hb; replace hz := hz') | ((with_reducible refine bx_2 (w.heap.size + 2) #[.int .u32 (a : Nat), .int .u32 (n : Nat)] ?_ ?_ ?_); exact hz.out; exact rfl; intro W h2 hb' hz'; obtain ⟨hr, hi, hb⟩ := an2 hz hb' hr hi hb; replace hz := hz') | ((with_reducible refine al_g (w.heap.size + 3) ?_ ?_); exact hz.out; intro W hq hb' hz'; obtain ⟨hr, hi, h2, hb⟩ := an3 hz hb' hr hi h2 hb; replace hz := hz'; have fi := hi.cell; have f2 := h2.cell) | ((with_reducible refine ld_g w.heap.size _ hr ?_ ?_); exact rfl) | ((with_reducible refine ld_gpc w.heap.size _ hr ?_ ?_); exact rfl) | ((with_reducible refine ld_gc w.heap.size _ hr ?_ ?_); exact rfl) | (go_at_call 73; refine (HR.out _).mono ?_; rintro e W ⟨rfl, hbc⟩; obtain ⟨hr, hi, h2, hq, hb⟩ := bl4 hbc hr hi h2 hq hb; obtain ⟨NI, hNI⟩ : ∃ n, W.heap.size = n := ⟨_, rfl⟩; have lNI : w.heap.size + 4 ≤ NI := (by (have := hq.lt; omega)); replace hNI := hide hNI) | ((with_reducible refine al_gs NI ?_ ?_); exact hNI.out; intro W hs hb' hz'; obtain ⟨hr, hi, h2, hq, hb⟩ := an4 hNI hb' hr hi h2 hq hb) | ((with_reducible refine st_gs NI _ (retN h.c) hs ?_ ?_ ?_); exact rfl; exact rfl; intro W hnew ho; obtain ⟨hr, hi, h2, hq, hb⟩ := on4 ho hr hi h2 hq hb; replace hs := hnew) | ((with_reducible refine ld_gs NI _ hs ?_ ?_); exact rfl) | ((with_reducible refine st_gc w.heap.size h (retN h.c) hr ?_ ?_ ?_); exact rfl; exact rfl; intro W hnew ho; obtain ⟨hi, h2, hq, hb⟩ := on3 ho hi h2 hq hb; replace hr := hnew) | (go_at_call 33; refine (HT.out _).mono ?_; rintro e W ⟨rfl, hbc⟩; obtain ⟨hr, hi, h2, hq, hb⟩ := bl4 hbc hr hi h2 hq hb) | ((with_reducible refine st_g (w.heap.size + 3) _ (goH (withC h (retN h.c)) h.c.ep) hq ?_ ?_ ?_); exact rfl; exact rfl; intro W hnew ho; obtain ⟨hr, hi, h2, hb⟩ := on3 ho hr hi h2 hb; replace hq := hnew))
  refine bodyPost_ret (results_cell_row Tryd.results37 _ _ (w.heap.size + 3) _ _ _ _ rfl hq Tryd.underlying28 rfl size_g) rfl ?_
  exact ⟨rfl, hb⟩

end Go.Proofs.YtchjhpeogdkbmaaDoor
namespace Go.Proofs.YtchjhpeogdkbmaaDoor
open Go.RowKit
set_option linter.unusedVariables false

end Go.Proofs.YtchjhpeogdkbmaaDoor
namespace Go.Proofs.YtchjhpeogdkbmaaDoor
open Go.RowKit
set_option linter.unusedVariables false
variable {ops : Array Oper} {rest : List Oper} {dst : Option Tmp} {ty : TypeId} {pos : String} {after : Array Edge} {a : Act} {w : World} {Q : Exit → Act → World → Prop} {x y : Operand}
theorem ld_gxr (b r : Nat) (h : H) (hr' : r < 32) (hr : RowAt w b h.cells 28) (hx : a.eval x = .pointer (some ⟨b, 1 + r, none⟩))
    (k : wpList Tryd.prog ops Q rest (a.put dst (.int .u32 (h.x r : Nat))) w) : wpList Tryd.prog ops Q (⟨dst, .load 22 x, ty, pos, after, none⟩ :: rest) a w :=
  op_load_cell b (1 + r) hx h.cells _ _ hr (h.cell_x r hr') _ Tryd.underlying22 rfl k
theorem y_g0 {S : World → Prop} (b : Nat) (h : H) (hS : ∀ V, S V → RowAt V b h.cells 28) (hx : a.eval x = .pointer (some ⟨b, 0, none⟩)) :
    YieldsIf Tryd.prog ops S ⟨dst, .load 28 x, ty, pos, after, none⟩ (.agg h.cells) a := y_load b h.cells _ hS _ Tryd.underlying28 rfl size_g hx
theorem s_g (b : Nat) (old h : H) {K : Act → World → Prop} (hr : RowAt w b old.cells 28) (hx : a.eval x = .pointer (some ⟨b, 0, none⟩)) (hy : a.eval y = .agg h.cells)
    (k : ∀ W, RowAt W b h.cells 28 → Only b w W → K (a.put dst undef) W) :
    Oper.wp Tryd.prog ⟨dst, .store 28 x y, ty, pos, after, none⟩ a w K Q :=
  s_store b hx h.cells hy old.cells _ hr size_g rfl (h_one h) k
end Go.Proofs.YtchjhpeogdkbmaaDoor
namespace Go.Proofs.YtchjhpeogdkbmaaDoor
open Go.RowKit
set_option linter.unusedVariables false
theorem bv_split (a b : BitVec 32) : (a &&& b) + (a &&& ~~~b) = a := by
  rw [BitVec.add_eq_or_of_and_eq_zero]
  · apply BitVec.eq_of_getElem_eq
    intro i hi
    rw [BitVec.getElem_or, BitVec.getElem_and, BitVec.getElem_and, BitVec.getElem_not]
    cases a[i] <;> cases b[i] <;> rfl
  · apply BitVec.eq_of_getElem_eq
    intro i hi
    rw [BitVec.getElem_and, BitVec.getElem_and, BitVec.getElem_and, BitVec.getElem_not, BitVec.getElem_zero]
    cases a[i] <;> cases b[i] <;> rfl
theorem and_split (x y : Nat) (hx : x < 4294967296) (hy : y < 4294967296) : ((x &&& y) + (x &&& (4294967295 - y))) % 4294967296 = x := by
  have h := congrArg BitVec.toNat (bv_split (BitVec.ofNat 32 x) (BitVec.ofNat 32 y))
  rw [BitVec.toNat_add, BitVec.toNat_and, BitVec.toNat_and, BitVec.toNat_not, BitVec.toNat_ofNat, BitVec.toNat_ofNat, Nat.mod_eq_of_lt (by omega : x < 2 ^ 32), Nat.mod_eq_of_lt (by omega : y < 2 ^ 32)] at h
  exact h
theorem sub_and53 (old v : Nat) (ho : old < 4294967296) (hv : v < 4294967296) : ((old &&& (4294967295 - v) : Nat) : Int) = ((old : Int) - bits .and .u32 (old : Int) (v : Int)) % 4294967296 := by
  rw [u32_and_nat old v ho hv]
  have h := and_split old v ho hv
  have h1 : old &&& v < 4294967296 := and_lt ho
  have h2 : old &&& (4294967295 - v) < 4294967296 := and_lt ho
  omega
theorem mixR_lt (op : Nat) {old v : Nat} (h : old < 4294967296) (h' : v < 4294967296) : mixN op old v < 4294967296 := by
  unfold mixN
  split
  · exact or_lt32 h h'
  · split
    · exact and_lt h
    · exact h'

end Go.Proofs.YtchjhpeogdkbmaaDoor
