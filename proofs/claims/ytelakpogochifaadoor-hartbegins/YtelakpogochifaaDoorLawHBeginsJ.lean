/-
  HartBegins: of every hart, every word of lines and every start: what Begin answers is what the document says, and whether the hart goes on; Check answers the number that the document asks; Reset starts as the document says; what must come whatever the input is comes; the arguments stay. The conditions: errors.errorType, csr's order of the lines, inst's kinds and words, hart's operations on numbers and widths read as the program's text lays them, to which the card ties them.
-/
import Derived.Test.YtelakpogochifaaDoorHaRow
import Derived.Laws.StructEq
import Derived.ChangeKeysEq
import Derived.Test.YtelakpogochifaaDoorHCsProg
import Derived.Test.YtelakpogochifaaDoorHaAll
import Derived.Deep.WholeRow
import Derived.Test.YtelakpogochifaaDoorRCsBut
import Derived.Test.YtelakpogochifaaDoorHRCsRow
import Derived.Deep.RegionWith
import Derived.Deep.DrawnRows
import Derived.Test.YtelakpogochifaaDoorHRCsCheck
import Derived.Test.YtelakpogochifaaDoorHCsAsks
import Derived.Deep.RegionHeld3
import Derived.Test.YtelakpogochifaaDoorHRCsAsks
import Derived.Test.YtelakpogochifaaDoorCsMath2
import Derived.Test.YtelakpogochifaaDoorRows
import Derived.WalkKit
import Derived.WalkLawsBesides
import Derived.LaidEql
import Derived.Stop.Asserts
import Derived.RowKitTokens
import Derived.Below
import Derived.Test.YtelakpogochifaaDoorBase
import Derived.ProofKit
import Derived.OpenShut
import Derived.WideShapes
import Derived.LaidMore
import Derived.LaidLaws
import Derived.Test.YtelakpogochifaaDoorTie
import Derived.Test.YtelakpogochifaaDoorCards
import Derived.LaidHandle
import Derived.Stop.Joined
import Derived.SevenTiedAt
import Derived.SizedLaws
namespace Go.Proofs.YtelakpogochifaaDoor
open Go.RowKit
set_option linter.unusedVariables false

/-- A hart's registers, as an array. -/
def H.xs (h : H) : Array Value := #[.int .u32 (h.x 0 : Nat), .int .u32 (h.x 1 : Nat), .int .u32 (h.x 2 : Nat), .int .u32 (h.x 3 : Nat), .int .u32 (h.x 4 : Nat), .int .u32 (h.x 5 : Nat), .int .u32 (h.x 6 : Nat), .int .u32 (h.x 7 : Nat), .int .u32 (h.x 8 : Nat), .int .u32 (h.x 9 : Nat), .int .u32 (h.x 10 : Nat), .int .u32 (h.x 11 : Nat), .int .u32 (h.x 12 : Nat), .int .u32 (h.x 13 : Nat), .int .u32 (h.x 14 : Nat), .int .u32 (h.x 15 : Nat), .int .u32 (h.x 16 : Nat), .int .u32 (h.x 17 : Nat), .int .u32 (h.x 18 : Nat), .int .u32 (h.x 19 : Nat), .int .u32 (h.x 20 : Nat), .int .u32 (h.x 21 : Nat), .int .u32 (h.x 22 : Nat), .int .u32 (h.x 23 : Nat), .int .u32 (h.x 24 : Nat), .int .u32 (h.x 25 : Nat), .int .u32 (h.x 26 : Nat), .int .u32 (h.x 27 : Nat), .int .u32 (h.x 28 : Nat), .int .u32 (h.x 29 : Nat), .int .u32 (h.x 30 : Nat), .int .u32 (h.x 31 : Nat)]
theorem info_word : ∃ i, Tryd.prog.info? 22 = some i ∧ i.size = 1 := by
  have := size_word
  cases hq : Tryd.prog.info? 22 with
  | none => simp [hq] at this
  | some i => exact ⟨i, rfl, by simpa [hq] using this⟩
set_option maxHeartbeats 1000000 in
theorem eq_xs (h : H) (d : Nat) (w : World) : (Op.equalIn (d + 2) 23 (.agg h.xs) (.agg h.xs)).run Tryd.prog w = .ok true w := by
  obtain ⟨i, hi, h1⟩ := info_word
  have hc : Tryd.prog.cellsOf 22 = 1 := by kernel_rfl
  rw [run_equalIn_array w (d + 1) h.xs h.xs Tryd.underlying23 hi, hc]
  generalize hx : h.xs = xs
  have hz : ∀ j, j < 32 → ∃ z, xs[j]? = some (.int .u32 z) := by
    subst hx
    intro j hj
    rcases j with _ | _ | _ | _ | _ | _ | _ | _ | _ | _ | _ | _ | _ | _ | _ | _ | _ | _ | _ | _ | _ | _ | _ | _ | _ | _ | _ | _ | _ | _ | _ | _ | j
    all_goals first | exact ⟨_, rfl⟩ | omega
  have hl : ∀ is : List Nat, (∀ j ∈ is, j < 32) → (Op.eqItems (d + 1) 22 1 xs xs is).run Tryd.prog w = .ok true w := by
    intro is
    induction is with
    | nil => intro _; simp [Op.eqItems]
    | cons j is ih =>
      intro hj
      obtain ⟨z, hz⟩ := hz j (hj j (by simp))
      have hp : (Go.part 22 xs (j * 1)).run Tryd.prog w = .ok (.int .u32 z) w := by
        simp [Go.part, go_sem, hz]
      have he : (Op.equalIn (d + 1) 22 (.int .u32 z) (.int .u32 z)).run Tryd.prog w = .ok true w := by
        simp [go_sem]
      simp only [Op.eqItems, Sem.run_bind, hp, he, Result.andThen_ok]
      simpa using ih (fun k hk => hj k (by simp [hk]))
  exact hl _ (fun j hj => by simpa using hj)

theorem H.at0 (h : H) : h.cells[0]? = some (.int .u32 (h.pc : Nat)) := rfl
theorem H.at1 (h : H) : h.cells[1]? = some (.int .u32 (h.x 0 : Nat)) := rfl
theorem H.at2 (h : H) : h.cells[2]? = some (.int .u32 (h.x 1 : Nat)) := rfl
theorem H.at3 (h : H) : h.cells[3]? = some (.int .u32 (h.x 2 : Nat)) := rfl
theorem H.at4 (h : H) : h.cells[4]? = some (.int .u32 (h.x 3 : Nat)) := rfl
theorem H.at5 (h : H) : h.cells[5]? = some (.int .u32 (h.x 4 : Nat)) := rfl
theorem H.at6 (h : H) : h.cells[6]? = some (.int .u32 (h.x 5 : Nat)) := rfl
theorem H.at7 (h : H) : h.cells[7]? = some (.int .u32 (h.x 6 : Nat)) := rfl
theorem H.at8 (h : H) : h.cells[8]? = some (.int .u32 (h.x 7 : Nat)) := rfl
theorem H.at9 (h : H) : h.cells[9]? = some (.int .u32 (h.x 8 : Nat)) := rfl
theorem H.at10 (h : H) : h.cells[10]? = some (.int .u32 (h.x 9 : Nat)) := rfl
theorem H.at11 (h : H) : h.cells[11]? = some (.int .u32 (h.x 10 : Nat)) := rfl
theorem H.at12 (h : H) : h.cells[12]? = some (.int .u32 (h.x 11 : Nat)) := rfl
theorem H.at13 (h : H) : h.cells[13]? = some (.int .u32 (h.x 12 : Nat)) := rfl
theorem H.at14 (h : H) : h.cells[14]? = some (.int .u32 (h.x 13 : Nat)) := rfl
theorem H.at15 (h : H) : h.cells[15]? = some (.int .u32 (h.x 14 : Nat)) := rfl
theorem H.at16 (h : H) : h.cells[16]? = some (.int .u32 (h.x 15 : Nat)) := rfl
theorem H.at17 (h : H) : h.cells[17]? = some (.int .u32 (h.x 16 : Nat)) := rfl
theorem H.at18 (h : H) : h.cells[18]? = some (.int .u32 (h.x 17 : Nat)) := rfl
theorem H.at19 (h : H) : h.cells[19]? = some (.int .u32 (h.x 18 : Nat)) := rfl
theorem H.at20 (h : H) : h.cells[20]? = some (.int .u32 (h.x 19 : Nat)) := rfl
theorem H.at21 (h : H) : h.cells[21]? = some (.int .u32 (h.x 20 : Nat)) := rfl
theorem H.at22 (h : H) : h.cells[22]? = some (.int .u32 (h.x 21 : Nat)) := rfl
theorem H.at23 (h : H) : h.cells[23]? = some (.int .u32 (h.x 22 : Nat)) := rfl
theorem H.at24 (h : H) : h.cells[24]? = some (.int .u32 (h.x 23 : Nat)) := rfl
theorem H.at25 (h : H) : h.cells[25]? = some (.int .u32 (h.x 24 : Nat)) := rfl
theorem H.at26 (h : H) : h.cells[26]? = some (.int .u32 (h.x 25 : Nat)) := rfl
theorem H.at27 (h : H) : h.cells[27]? = some (.int .u32 (h.x 26 : Nat)) := rfl
theorem H.at28 (h : H) : h.cells[28]? = some (.int .u32 (h.x 27 : Nat)) := rfl
theorem H.at29 (h : H) : h.cells[29]? = some (.int .u32 (h.x 28 : Nat)) := rfl
theorem H.at30 (h : H) : h.cells[30]? = some (.int .u32 (h.x 29 : Nat)) := rfl
theorem H.at31 (h : H) : h.cells[31]? = some (.int .u32 (h.x 30 : Nat)) := rfl
theorem H.at32 (h : H) : h.cells[32]? = some (.int .u32 (h.x 31 : Nat)) := rfl
theorem H.at33 (h : H) : h.cells[33]? = some (.bool h.wt) := rfl
theorem H.at34 (h : H) : h.cells[34]? = some (.int .u32 (h.c.st : Nat)) := rfl
theorem H.at35 (h : H) : h.cells[35]? = some (.int .u32 (h.c.en : Nat)) := rfl
theorem H.at36 (h : H) : h.cells[36]? = some (.int .u32 (h.c.ve : Nat)) := rfl
theorem H.at37 (h : H) : h.cells[37]? = some (.int .u32 (h.c.sc : Nat)) := rfl
theorem H.at38 (h : H) : h.cells[38]? = some (.int .u32 (h.c.ep : Nat)) := rfl
theorem H.at39 (h : H) : h.cells[39]? = some (.int .u32 (h.c.ca : Nat)) := rfl
theorem H.at40 (h : H) : h.cells[40]? = some (.int .u32 (h.c.va : Nat)) := rfl
theorem H.at41 (h : H) : h.cells[41]? = some (.int .u64 (h.c.ct : Nat)) := rfl
theorem A6.at0 (a : A6) : a.cells[0]? = some (.int .i64 a.kind) := rfl
theorem A6.at1 (a : A6) : a.cells[1]? = some (.int .u32 (a.pl : Nat)) := rfl
theorem A6.at2 (a : A6) : a.cells[2]? = some (.int .i64 a.n) := rfl
theorem A6.at3 (a : A6) : a.cells[3]? = some (.bool a.sg) := rfl
theorem A6.at4 (a : A6) : a.cells[4]? = some (.int .i64 a.rd) := rfl
theorem A6.at5 (a : A6) : a.cells[5]? = some (.int .u32 (a.va : Nat)) := rfl
set_option maxHeartbeats 1000000 in
theorem eq_h (h : H) (w : World) : (binOp .eql 31 (.agg h.cells) (.agg h.cells)).run Tryd.prog w = .ok (.bool true) w := by
  have hx : (Op.equalIn 9999 23 (.agg h.xs) (.agg h.xs)).run Tryd.prog w = .ok true w := eq_xs h 9997 w
  have e1 : h.cells.extract 1 33 = h.xs := by simp [H.cells, H.xs]
  have e2 : h.cells.extract 34 42 = h.c.cells := by simp [H.cells, S8.cells]
  simp [go_sem, e1, e2, hx, H.at0, H.at33, S8.cells]
theorem eq_x (h : H) (w : World) : (binOp .eql 23 (.agg h.xs) (.agg h.xs)).run Tryd.prog w = .ok (.bool true) w := by
  have hx : (Op.equalIn 10000 23 (.agg h.xs) (.agg h.xs)).run Tryd.prog w = .ok true w := eq_xs h 9998 w
  simp [go_sem, hx]
theorem ne_x (h : H) (w : World) : (binOp .neq 23 (.agg h.xs) (.agg h.xs)).run Tryd.prog w = .ok (.bool false) w := by
  have hx : (Op.equalIn 10000 23 (.agg h.xs) (.agg h.xs)).run Tryd.prog w = .ok true w := eq_xs h 9998 w
  simp [go_sem, hx]
end Go.Proofs.YtelakpogochifaaDoor
namespace Go.Proofs.YtelakpogochifaaDoor
open Go.RowKit
set_option linter.unusedVariables false

def checkV (b : Bool) : Value := if b then .nilIface else .iface 89 (.int .i64 1)

set_option maxHeartbeats 1000000 in
theorem cs_check_any (s : S8) (hs : s.Ok) (w : World) :
    Calls Tryd.prog 42 #[.agg s.cells] w fun e w' => e = .returned (checkV (mayB s)) ∧ ∃ o, w' = w.alloc o := by
  obtain ⟨st, en, ve, sc, ep, ca, va, ct⟩ := s
  obtain ⟨h0, h1, h2, h3, h4, h5, h6, h7⟩ := hs
  dsimp only at h0 h1 h2 h4
  have t0 := but_ne st 136 h0 (by decide)
  have t1 := but_ne en 2184 h1 (by decide)
  have t2 := mask_ne ve 2 h2 (by decide)
  have t3 := mask_ne ep 3 h4 (by decide)
  rw [show ((136 : Nat) : Int) = 136 from rfl, show (4294967295 - 136 : Nat) = 4294967159 from rfl] at t0
  rw [show ((2184 : Nat) : Int) = 2184 from rfl, show (4294967295 - 2184 : Nat) = 4294965111 from rfl] at t1
  rw [show ((2 : Nat) : Int) = 2 from rfl] at t2
  rw [show ((3 : Nat) : Int) = 3 from rfl] at t3
  have hm : mayB ⟨st, en, ve, sc, ep, ca, va, ct⟩ = (!(st &&& 4294967159 != 0) && (!(en &&& 4294965111 != 0) && (!(ve &&& 2 != 0) && !(ep &&& 3 != 0)))) := by
    unfold mayB; simp only [bne, Bool.not_not]
  rw [hm]; clear hm
  show Calls Tryd.prog 42 #[.agg #[.int .u32 st, .int .u32 en, .int .u32 ve, .int .u32 sc, .int .u32 ep, .int .u32 ca, .int .u32 va, .int .u64 ct]] w _
  generalize (st &&& 4294967159 != 0) = b0 at *
  generalize (en &&& 4294965111 != 0) = b1 at *
  generalize (ve &&& 2 != 0) = b2 at *
  generalize (ep &&& 3 != 0) = b3 at *
  cases b0
  · cases b1
    · cases b2
      · cases b3
        · go_enter Tryd.func42, Tryd.ntmps42
          go_wp2
          go_ret
          exact ⟨rfl, _, rfl⟩
        · go_enter Tryd.func42, Tryd.ntmps42
          go_wp2
          go_ret
          exact ⟨rfl, _, rfl⟩
      · go_enter Tryd.func42, Tryd.ntmps42
        go_wp2
        go_ret
        exact ⟨rfl, _, rfl⟩
    · go_enter Tryd.func42, Tryd.ntmps42
      go_wp2
      go_ret
      exact ⟨rfl, _, rfl⟩
  · go_enter Tryd.func42, Tryd.ntmps42
    go_wp2
    go_ret
    exact ⟨rfl, _, rfl⟩
end Go.Proofs.YtelakpogochifaaDoor
namespace Go.Proofs.YtelakpogochifaaDoor
open Go.RowKit
set_option linter.unusedVariables false

attribute [local go_sem] H.at0 H.at1 H.at2 H.at3 H.at4 H.at5 H.at6 H.at7 H.at8 H.at9 H.at10 H.at11 H.at12 H.at13 H.at14 H.at15 H.at16 H.at17 H.at18 H.at19 H.at20 H.at21 H.at22 H.at23 H.at24 H.at25 H.at26 H.at27 H.at28 H.at29 H.at30 H.at31 H.at32 H.at33 H.at34 H.at35 H.at36 H.at37 H.at38 H.at39 H.at40 H.at41 A6.at0 A6.at1 A6.at2 A6.at3 A6.at4 A6.at5

/-- Whether a hart may be. -/
def mayH (h : H) : Bool := decide (h.pc % 4 = 0) && (decide (h.x 0 = 0) && mayB h.c)
theorem cs_check_bl (s : S8) (hs : s.Ok) (w : World) :
    Calls Tryd.prog 42 #[.agg s.cells] w fun e w' => e = .returned (checkV (mayB s)) ∧ Below w.heap.size w w' :=
  (cs_check_any s hs w).mono fun e w' ⟨he, o, hw⟩ => ⟨he, hw ▸ below_one w o⟩
set_option maxHeartbeats 1000000 in
theorem check_pc (h : H) (ok : h.Ok) (h0 : ¬ h.pc % 4 = 0) (w : World) :
    Calls Tryd.prog 15 #[.agg h.cells] w fun e w' => e = .returned (checkV false) ∧ Below w.heap.size w w' := by
  have t0 : ((h.pc : Int) % 4 != 0) = true := by simp; omega
  clear h0
  go_enter Tryd.func15, Tryd.ntmps15
  go_wp2_with (first | ((with_reducible refine bx_h w.heap.size h ?_ ?_ ?_); exact rfl; exact rfl; intro W hr hb hz; have fx := hr.cell) | ((with_reducible refine ld_pc w.heap.size _ hr ?_ ?_); exact rfl) | ((with_reducible refine ld_c w.heap.size _ hr ?_ ?_); exact rfl))
  go_ret
  exact ⟨rfl, hb⟩

set_option maxHeartbeats 1000000 in
theorem check_x (h : H) (ok : h.Ok) (h0 : h.pc % 4 = 0) (h1 : ¬ h.x 0 = 0) (w : World) :
    Calls Tryd.prog 15 #[.agg h.cells] w fun e w' => e = .returned (checkV false) ∧ Below w.heap.size w w' := by
  have t0 : ((h.pc : Int) % 4 != 0) = false := by simp; omega
  have t1 : (((h.x 0 : Nat) : Int) != 0) = true := by simp; omega
  clear h0 h1
  go_enter Tryd.func15, Tryd.ntmps15
  go_wp2_with (first | ((with_reducible refine bx_h w.heap.size h ?_ ?_ ?_); exact rfl; exact rfl; intro W hr hb hz; have fx := hr.cell) | ((with_reducible refine ld_pc w.heap.size _ hr ?_ ?_); exact rfl) | ((with_reducible refine ld_c w.heap.size _ hr ?_ ?_); exact rfl))
  go_ret
  exact ⟨rfl, hb⟩

set_option maxHeartbeats 1000000 in
theorem check_c (h : H) (ok : h.Ok) (h0 : h.pc % 4 = 0) (h1 : h.x 0 = 0) (w : World) :
    Calls Tryd.prog 15 #[.agg h.cells] w fun e w' => e = .returned (checkV (mayB h.c)) ∧ Below w.heap.size w w' := by
  have t0 : ((h.pc : Int) % 4 != 0) = false := by simp; omega
  have t1 : (((h.x 0 : Nat) : Int) != 0) = false := by simp; omega
  clear h0 h1
  have HC := hide (fun w => cs_check_bl h.c ok.c w)
  go_enter Tryd.func15, Tryd.ntmps15
  go_wp2_with (first | ((with_reducible refine bx_h w.heap.size h ?_ ?_ ?_); exact rfl; exact rfl; intro W hr hb hz; have fx := hr.cell) | ((with_reducible refine ld_pc w.heap.size _ hr ?_ ?_); exact rfl) | ((with_reducible refine ld_c w.heap.size _ hr ?_ ?_); exact rfl) | (go_at_call 42; refine (HC.out _).mono ?_; rintro e W ⟨rfl, hbc⟩; replace hr := hr.bl hbc; replace hb := below_bl rfl hb hbc))
  go_ret
  exact ⟨rfl, hb⟩

theorem check_any (h : H) (ok : h.Ok) (w : World) :
    Calls Tryd.prog 15 #[.agg h.cells] w fun e w' => e = .returned (checkV (mayH h)) ∧ Below w.heap.size w w' := by
  unfold mayH
  by_cases h0 : h.pc % 4 = 0
  · by_cases h1 : h.x 0 = 0
    · rw [decide_eq_true h0, decide_eq_true h1]; exact check_c h ok h0 h1 w
    · rw [decide_eq_false h1]; simp only [Bool.false_and, Bool.and_false]; exact check_x h ok h0 h1 w
  · rw [decide_eq_false h0]; simp only [Bool.false_and]; exact check_pc h ok h0 w
theorem built_h (h : H) : Tryd.prog.built 31 [(0, .int .u32 (h.pc : Nat)), (1, .agg h.xs), (2, .bool h.wt), (3, .agg h.c.cells)] = some h.cells := by kernel_rfl
variable {ops : Array Oper} {rest : List Oper} {dst : Option Tmp} {ty : TypeId} {pos : String} {after : Array Edge} {a : Act} {w : World} {Q : Exit → Act → World → Prop} {x y : Operand}
theorem bd_h {x0 x1 x2 x3 : Operand} (h : H) (h0 : a.eval x0 = .int .u32 (h.pc : Nat)) (h1 : a.eval x1 = .agg h.xs) (h2 : a.eval x2 = .bool h.wt) (h3 : a.eval x3 = .agg h.c.cells)
    (k : wpList Tryd.prog ops Q rest (a.put dst (.agg h.cells)) w) : wpList Tryd.prog ops Q (⟨dst, .build 31 #[(0, x0), (1, x1), (2, x2), (3, x3)], ty, pos, after, none⟩ :: rest) a w := by
  have hp : ((#[(0, x0), (1, x1), (2, x2), (3, x3)] : Array (Nat × Operand)).map fun (i, x) => (i, a.eval x)).toList = [(0, .int .u32 (h.pc : Nat)), (1, .agg h.xs), (2, .bool h.wt), (3, .agg h.c.cells)] := by
    simp [h0, h1, h2, h3]
  refine wpList_build rfl 31 _ rfl ?_ ?_
  · rw [hp, built_h]; rfl
  · rw [hp, built_h]; exact k
theorem built_r (p : Nat) : Tryd.prog.built 31 [(0, .int .u32 (p : Nat))] = some (H.cells ⟨p, fun _ => 0, false, zeroS⟩) := by kernel_rfl
theorem bd_r {x0 : Operand} (p : Nat) (h0 : a.eval x0 = .int .u32 (p : Nat))
    (k : wpList Tryd.prog ops Q rest (a.put dst (.agg (H.cells ⟨p, fun _ => 0, false, zeroS⟩))) w) : wpList Tryd.prog ops Q (⟨dst, .build 31 #[(0, x0)], ty, pos, after, none⟩ :: rest) a w := by
  have hp : ((#[(0, x0)] : Array (Nat × Operand)).map fun (i, x) => (i, a.eval x)).toList = [(0, .int .u32 (p : Nat))] := by
    simp [h0]
  refine wpList_build rfl 31 _ rfl ?_ ?_
  · rw [hp, built_r]; rfl
  · rw [hp, built_r]; exact k
theorem bx_g (N : Nat) (h : H) (hN : w.heap.size = N) (hx : a.eval x = .agg h.cells)
    (k : ∀ W, RowAt W N h.cells 28 → Below N w W → Hid (W.heap.size = N + 1) → wpList Tryd.prog ops Q rest (a.put dst (.pointer (some ⟨N, 0, none⟩))) W) :
    wpList Tryd.prog ops Q (⟨dst, .box 28 x, ty, pos, after, none⟩ :: rest) a w := op_box N hN h.cells hx k
theorem size_g : (Tryd.prog.info? 28).map (·.size) = some 42 := by kernel_rfl
theorem ld_g (b : Nat) (h : H) (hr : RowAt w b h.cells 28) (hx : a.eval x = .pointer (some ⟨b, 0, none⟩))
    (k : wpList Tryd.prog ops Q rest (a.put dst (.agg h.cells)) w) : wpList Tryd.prog ops Q (⟨dst, .load 28 x, ty, pos, after, none⟩ :: rest) a w :=
  op_load b hx h.cells _ hr _ Tryd.underlying28 rfl size_g k
theorem size_xs : (Tryd.prog.info? 23).map (·.size) = some 32 := by kernel_rfl
theorem ex_xs (h : H) : (h.cells.extract 1 (1 + h.xs.size)).toList = h.xs.toList := by simp [H.cells, H.xs]
theorem ld_gx (b : Nat) (h : H) (t' : TypeId) (hr : RowAt w b h.cells t') (hx : a.eval x = .pointer (some ⟨b, 1, none⟩))
    (k : wpList Tryd.prog ops Q rest (a.put dst (.agg h.xs)) w) : wpList Tryd.prog ops Q (⟨dst, .load 23 x, ty, pos, after, none⟩ :: rest) a w :=
  op_load_mid b 1 hx h.cells h.xs _ hr (ex_xs h) _ Tryd.underlying23 rfl size_xs k
theorem size_c5 : (Tryd.prog.info? 26).map (·.size) = some 8 := by kernel_rfl
theorem ld_gc (b : Nat) (h : H) (hr : RowAt w b h.cells 28) (hx : a.eval x = .pointer (some ⟨b, 34, none⟩))
    (k : wpList Tryd.prog ops Q rest (a.put dst (.agg h.c.cells)) w) : wpList Tryd.prog ops Q (⟨dst, .load 26 x, ty, pos, after, none⟩ :: rest) a w :=
  op_load_mid b 34 hx h.cells h.c.cells _ hr rfl _ Tryd.underlying26 rfl size_c5 k
def resetH (pc : Nat) : H := ⟨pc - pc % 4, fun _ => 0, false, zeroS⟩
theorem resetH_ok (pc : Nat) (h : pc < 4294967296) : (resetH pc).Ok := ⟨by show pc - pc % 4 < _; omega, fun _ => by show 0 < _; decide, zeroS_ok⟩
set_option maxHeartbeats 1000000 in
theorem reset_any (pc : Nat) (hp : pc < 4294967296) (w : World) :
    Calls Tryd.prog 17 #[.int .u32 pc] w fun e w' => e = .returned (.agg (resetH pc).cells) ∧ Below w.heap.size w w' := by
  have E0 : Hid (Value.int .u32 ((pc : Int) - (pc : Int) % 4) = .int .u32 ((pc - pc % 4 : Nat) : Int)) := hide (by congr 1; omega)
  go_enter Tryd.func17, Tryd.ntmps17
  go_wp2_with (first | ((with_reducible refine al_h w.heap.size ?_ ?_); exact rfl; intro W hq hb hz) | ((with_reducible refine bd_r (pc - pc % 4) ?_ ?_); exact E0.out) | ((with_reducible refine st_h w.heap.size _ (resetH pc) hq ?_ ?_ ?_); exact rfl; exact rfl; intro W hnew ho; replace hq := hnew; replace hb := ho.bel _ _ (by omega) hb))
  refine bodyPost_ret (results_cell_row Tryd.results17 _ _ w.heap.size _ _ _ _ rfl hq Tryd.underlying31 rfl size_hart) rfl ?_
  exact ⟨rfl, hb⟩

set_option maxHeartbeats 1000000 in
theorem give_any (h : H) (w : World) :
    Calls Tryd.prog 9 #[.agg h.cells] w fun e w' => e = .returned (.agg h.cells) ∧ Below w.heap.size w w' := by
  go_enter Tryd.func9, Tryd.ntmps9
  go_wp2_with (first | ((with_reducible refine bx_g w.heap.size h ?_ ?_ ?_); exact rfl; exact rfl; intro W hr hb hz) | ((with_reducible refine al_h (w.heap.size + 1) ?_ ?_); exact hz.out; intro W hq hb' hz'; replace hr := hr.bl (hz.out ▸ hb'); replace hb := hb.trans (hb'.mono (by omega)); replace hz := hz'; have fx := hr.cell) | ((with_reducible refine ld_gx w.heap.size h _ hr ?_ ?_); exact rfl) | ((with_reducible refine ld_gc w.heap.size h hr ?_ ?_); exact rfl) | ((with_reducible refine bd_h h ?_ ?_ ?_ ?_ ?_); exact rfl; exact rfl; exact rfl; exact rfl) | ((with_reducible refine st_h (w.heap.size + 1) _ h hq ?_ ?_ ?_); exact rfl; exact rfl; intro W hnew ho; replace hr := hr.only ho (by omega); replace hq := hnew; replace hb := ho.bel _ _ (by omega) hb))
  refine bodyPost_ret (results_cell_row Tryd.results9 _ _ (w.heap.size + 1) _ _ _ _ rfl hq Tryd.underlying31 rfl size_hart) rfl ?_
  exact ⟨rfl, hb⟩

theorem sure_do : doH (resetH 0) 5243027 0 = (⟨4, setX (fun _ => 0) 1 5, false, upCt zeroS⟩, noA) := by
  have h1 : decOp 5243027 = some 18 := by decide +kernel
  have h2 : toldN 18 5243027 = ⟨18, 1, 0, 0, 5, 0⟩ := (I6.same_iff _ _).1 (by decide +kernel)
  unfold doH
  rw [h1]
  show doOp (resetH 0) 18 (toldN 18 5243027) 5243027 0 = _
  rw [h2]
  rfl
set_option maxHeartbeats 1000000 in
theorem sure_any (w : World) (hA : HartAt w) :
    Calls Tryd.prog 11 #[] w fun e w' => e = .returned (.bool true) ∧ Below w.heap.size w w' := by
  have HA := hide hA
  clear hA
  have HR := hide (fun w => reset_any 0 (by decide) w)
  rw [show (((0 : Nat) : Int)) = 0 from rfl] at HR
  have HD := hide (fun w hw => do_all (resetH 0) (resetH_ok 0 (by decide)) 5243027 (by decide) 0 (by decide) w hw)
  rw [sure_do, show (((0 : Nat) : Int)) = 0 from rfl, show (((5243027 : Nat) : Int)) = 5243027 from rfl] at HD
  have e1 : setX (fun _ => 0) 1 5 1 = 5 := rfl
  have e2 : (upCt zeroS).ct = 1 := rfl
  have e3 : noA.kind = 0 := rfl
  go_enter Tryd.func11, Tryd.ntmps11
  go_wp2_with (first | (go_at_call 17; refine (HR.out _).mono ?_; rintro e W ⟨rfl, hb⟩) | (go_at_call 8; refine (HD.out _ (HA.out.below hb)).mono ?_; rintro e W ⟨rfl, hbc⟩; replace hb := below_bl rfl hb hbc; obtain ⟨NI, hNI⟩ : ∃ n, W.heap.size = n := ⟨_, rfl⟩; have hlt : w.heap.size ≤ NI := (by (have := hb.size; omega)); replace hNI := hide hNI) | ((with_reducible refine al_h NI ?_ ?_); exact hNI.out; intro W hx hb' hz; replace hb := hb.trans (hb'.mono (by omega))) | ((with_reducible refine al_a (NI + 1) ?_ ?_); exact hz.out; intro W ha hb' hz'; replace hx := hx.bl (hz.out ▸ hb'); replace hb := hb.trans (hb'.mono (by omega))) | ((with_reducible refine st_h NI _ ⟨4, setX (fun _ => 0) 1 5, false, upCt zeroS⟩ hx ?_ ?_ ?_); exact rfl; exact rfl; intro W hnew ho; replace ha := ha.only ho (by omega); replace hx := hnew; replace hb := ho.bel _ _ (by omega) hb) | ((with_reducible refine st_a (NI + 1) _ noA ha ?_ ?_ ?_); exact rfl; exact rfl; intro W hnew ho; replace hx := hx.only ho (by omega); replace ha := hnew; replace hb := ho.bel _ _ (by omega) hb; have fx := hx.cell; have fa := ha.cell))
  go_ret
  exact ⟨rfl, hb⟩
end Go.Proofs.YtelakpogochifaaDoor
namespace Go.Proofs.YtelakpogochifaaDoor
open Go.RowKit
set_option linter.unusedVariables false

variable {ops : Array Oper} {rest : List Oper} {dst : Option Tmp} {ty : TypeId} {pos : String} {after : Array Edge} {a : Act} {w : World} {Q : Exit → Act → World → Prop} {x y : Operand} {b : Nat} {gd : Option (Nat × Bool)}
theorem zero_g (w : World) : (zeroValue 28).run Tryd.prog w = .ok (.agg zeroH.cells) w :=
  (zero_of_info (P := Tryd.prog) (t := 28) (v := .agg zeroH.cells) (n := 42) (by kernel_rfl)).1 w
theorem al_g (N : Nat) (hN : w.heap.size = N)
    (k : ∀ W, RowAt W N zeroH.cells 28 → Below N w W → Hid (W.heap.size = N + 1) → wpList Tryd.prog ops Q rest (a.put dst (.pointer (some ⟨N, 0, none⟩))) W) :
    wpList Tryd.prog ops Q (⟨dst, .alloc 28, ty, pos, after, none⟩ :: rest) a w := op_alloc N hN zeroH.cells zero_g k
theorem st_g (b : Nat) (old h : H) (hr : RowAt w b old.cells 28) (hx : a.eval x = .pointer (some ⟨b, 0, none⟩)) (hy : a.eval y = .agg h.cells)
    (k : ∀ W, RowAt W b h.cells 28 → Only b w W → wpList Tryd.prog ops Q rest (a.put dst undef) W) : wpList Tryd.prog ops Q (⟨dst, .store 28 x y, ty, pos, after, none⟩ :: rest) a w :=
  op_store b hx h.cells hy old.cells _ hr size_g rfl (h_one h) k
theorem st_gc (b : Nat) (h : H) (c : S8) (hr : RowAt w b h.cells 28) (hx : a.eval x = .pointer (some ⟨b, 34, none⟩)) (hy : a.eval y = .agg c.cells)
    (k : ∀ W, RowAt W b (withC h c).cells 28 → Only b w W → wpList Tryd.prog ops Q rest (a.put dst undef) W) : wpList Tryd.prog ops Q (⟨dst, .store 26 x y, ty, pos, after, none⟩ :: rest) a w :=
  op_store_mid b 34 hx c.cells hy h.cells _ _ hr size_c5 (by show 34 + 8 ≤ 42; decide) (c_one c) (putAll_c h c) k
theorem ld_gpc (b : Nat) (h : H) (hr : RowAt w b h.cells 28) (hx : a.eval x = .pointer (some ⟨b, 0, none⟩))
    (k : wpList Tryd.prog ops Q rest (a.put dst (.int .u32 (h.pc : Nat))) w) : wpList Tryd.prog ops Q (⟨dst, .load 22 x, ty, pos, after, none⟩ :: rest) a w :=
  op_load_cell b 0 hx h.cells _ _ hr rfl _ Tryd.underlying22 rfl k
theorem st_gpc (b : Nat) (h : H) (p : Nat) (hr : RowAt w b h.cells 28) (hx : a.eval x = .pointer (some ⟨b, 0, none⟩)) (hy : a.eval y = .int .u32 (p : Nat))
    (k : ∀ W, RowAt W b (H.cells ⟨p, h.x, h.wt, h.c⟩) 28 → Only b w W → wpList Tryd.prog ops Q rest (a.put dst undef) W) : wpList Tryd.prog ops Q (⟨dst, .store 22 x y, ty, pos, after, none⟩ :: rest) a w :=
  op_store_cell b 0 hx _ hy h.cells _ _ hr size_word (by show 0 < 42; decide) rfl rfl k
theorem ld_gwt (b : Nat) (h : H) (hr : RowAt w b h.cells 28) (hx : a.eval x = .pointer (some ⟨b, 33, none⟩))
    (k : wpList Tryd.prog ops Q rest (a.put dst (.bool h.wt)) w) : wpList Tryd.prog ops Q (⟨dst, .load 4 x, ty, pos, after, none⟩ :: rest) a w :=
  op_load_cell b 33 hx h.cells _ _ hr rfl _ Tryd.underlying4 rfl k
theorem st_gwt (b : Nat) (h : H) (p : Bool) (hr : RowAt w b h.cells 28) (hx : a.eval x = .pointer (some ⟨b, 33, none⟩)) (hy : a.eval y = .bool p)
    (k : ∀ W, RowAt W b (H.cells ⟨h.pc, h.x, p, h.c⟩) 28 → Only b w W → wpList Tryd.prog ops Q rest (a.put dst undef) W) : wpList Tryd.prog ops Q (⟨dst, .store 4 x y, ty, pos, after, none⟩ :: rest) a w :=
  op_store_cell b 33 hx _ hy h.cells _ _ hr size_bool (by show 33 < 42; decide) rfl rfl k
theorem zero_gs (w : World) : (zeroValue 26).run Tryd.prog w = .ok (.agg zeroS.cells) w :=
  (zero_of_info (P := Tryd.prog) (t := 26) (v := .agg zeroS.cells) (n := 8) (by kernel_rfl)).1 w
theorem al_gs (N : Nat) (hN : w.heap.size = N)
    (k : ∀ W, RowAt W N zeroS.cells 26 → Below N w W → Hid (W.heap.size = N + 1) → wpList Tryd.prog ops Q rest (a.put dst (.pointer (some ⟨N, 0, none⟩))) W) :
    wpList Tryd.prog ops Q (⟨dst, .alloc 26, ty, pos, after, none⟩ :: rest) a w := op_alloc N hN zeroS.cells zero_gs k
theorem ld_gs (b : Nat) (c : S8) (hr : RowAt w b c.cells 26) (hx : a.eval x = .pointer (some ⟨b, 0, none⟩))
    (k : wpList Tryd.prog ops Q rest (a.put dst (.agg c.cells)) w) : wpList Tryd.prog ops Q (⟨dst, .load 26 x, ty, pos, after, none⟩ :: rest) a w :=
  op_load b hx c.cells _ hr _ Tryd.underlying26 rfl size_c5 k
theorem st_gs (b : Nat) (old c : S8) (hr : RowAt w b old.cells 26) (hx : a.eval x = .pointer (some ⟨b, 0, none⟩)) (hy : a.eval y = .agg c.cells)
    (k : ∀ W, RowAt W b c.cells 26 → Only b w W → wpList Tryd.prog ops Q rest (a.put dst undef) W) : wpList Tryd.prog ops Q (⟨dst, .store 26 x y, ty, pos, after, none⟩ :: rest) a w :=
  op_store b hx c.cells hy old.cells _ hr size_c5 rfl (c_one c) k
theorem gl_gc (b : Nat) (h : H) (hr : RowAt w b h.cells 28) (hx : a.eval x = .pointer (some ⟨b, 34, none⟩)) (hw : Region.wanted ⟨dst, .load 26 x, ty, pos, after, gd⟩ (yielded ops a.tmps) = true)
    (k : wpList Tryd.prog ops Q rest (a.put dst (.agg h.c.cells)) w) : wpList Tryd.prog ops Q (⟨dst, .load 26 x, ty, pos, after, gd⟩ :: rest) a w := by
  have hq := World.rangeAt_of_block hr 34 8
  exact BigFrame.wpList_want hw fun K hK => wp_load_mid 26 x rfl b 34 hx h.c.cells.toList _ hq Tryd.underlying26 rfl size_c5 (hK _ _ k)
theorem built_gr (p : Nat) : Tryd.prog.built 28 [(0, .int .u32 (p : Nat))] = some (H.cells ⟨p, fun _ => 0, false, zeroS⟩) := by kernel_rfl
theorem bd_gr {x0 : Operand} (p : Nat) (h0 : a.eval x0 = .int .u32 (p : Nat))
    (k : wpList Tryd.prog ops Q rest (a.put dst (.agg (H.cells ⟨p, fun _ => 0, false, zeroS⟩))) w) : wpList Tryd.prog ops Q (⟨dst, .build 28 #[(0, x0)], ty, pos, after, none⟩ :: rest) a w := by
  have hp : ((#[(0, x0)] : Array (Nat × Operand)).map fun (i, x) => (i, a.eval x)).toList = [(0, .int .u32 (p : Nat))] := by
    simp [h0]
  refine wpList_build rfl 28 _ rfl ?_ ?_
  · rw [hp, built_gr]; rfl
  · rw [hp, built_gr]; exact k
end Go.Proofs.YtelakpogochifaaDoor
namespace Go.Proofs.YtelakpogochifaaDoor
open Go.RowKit
set_option linter.unusedVariables false

theorem rset_ex (a : Nat) (ha : a < 4294967296) (lo x : Nat) (hx : x < 4294967296) (w : World) :
    Calls Tryd.prog 90 #[.int .u32 a, .int .i64 lo, .int .i64 1, .int .u32 x] w fun e w' => e = .returned (.int .u32 (setOne a lo x : Nat)) ∧ ∃ o o', w' = (w.alloc o).alloc o' := by
  unfold setOne
  exact refset_ex a ha lo 1 (by omega) (by omega) x hx w
theorem rfld_ex (v : Nat) (hv : v < 4294967296) (lo : Nat) (w : World) :
    Calls Tryd.prog 91 #[.int .u32 v, .int .i64 lo, .int .i64 1] w fun e w' => e = .returned (.int .u32 (fldOne v lo : Nat)) ∧ ∃ o o', w' = (w.alloc o).alloc o' := by
  unfold fldOne
  exact reffield_ex v hv lo 1 w
theorem but2_tr (v : Nat) (hv : v < 4294967296) (w : World) (b : Nat) (t : TypeId) (h : RowAt w b #[.int .i64 0, .int .i64 1] t) :
    Calls Tryd.prog 79 #[.int .u32 v, .slice (some ⟨b, 0, none⟩) 2 2] w fun e w' => e = .returned (.int .u32 (v &&& 4294967292 : Nat)) ∧ Below w.heap.size w w' := by
  have hi : IntsAt w b [0, 1] := ⟨h.lt, fun j hj => by
    rw [h.cell j]
    match j, hj with
    | 0, _ => rfl
    | 1, _ => rfl⟩
  have h := rbut_any v hv [0, 1] (by decide) b w hi
  rw [but2 v hv] at h
  exact h
theorem size_rstate : (Tryd.prog.info? 26).map (·.size) = some 8 := by kernel_rfl
attribute [local go_sem ↓] Go.wp_at_zero Go.wp_at_succ

set_option maxHeartbeats 2000000 in
theorem rtrap_a (st en ve sc ep ca va ct pc pe x f r vv z v to : Int) (w : World)
    (HE : Hid (∀ w b t, RowAt w b #[.int .i64 0, .int .i64 1] t → Calls Tryd.prog 79 #[.int .u32 pc, .slice (some ⟨b, 0, none⟩) 2 2] w fun e w' => e = .returned (.int .u32 pe) ∧ Below w.heap.size w w'))
    (HV : Hid (∀ w b t, RowAt w b #[.int .i64 0, .int .i64 1] t → Calls Tryd.prog 79 #[.int .u32 ve, .slice (some ⟨b, 0, none⟩) 2 2] w fun e w' => e = .returned (.int .u32 vv) ∧ Below w.heap.size w w'))
    (HF : Hid (∀ w, Calls Tryd.prog 91 #[.int .u32 st, .int .i64 3, .int .i64 1] w fun e w' => e = .returned (.int .u32 f) ∧ ∃ o o', w' = (w.alloc o).alloc o'))
    (HS : Hid (∀ w, Calls Tryd.prog 90 #[.int .u32 st, .int .i64 7, .int .i64 1, .int .u32 f] w fun e w' => e = .returned (.int .u32 x) ∧ ∃ o o', w' = (w.alloc o).alloc o'))
    (HS2 : Hid (∀ w, Calls Tryd.prog 90 #[.int .u32 x, .int .i64 3, .int .i64 1, .int .u32 0] w fun e w' => e = .returned (.int .u32 r) ∧ ∃ o o', w' = (w.alloc o).alloc o'))
    (e1 : (ve % 2 == 1) = false) (e2 : to = vv) (t0 : 0 ≤ ve) :
    Calls Tryd.prog 64 #[.agg #[.int .u32 st, .int .u32 en, .int .u32 ve, .int .u32 sc, .int .u32 ep, .int .u32 ca, .int .u32 va, .int .u64 ct], .int .u32 z, .int .u32 v, .int .u32 pc] w fun e w' => e = .returned (.tuple #[.agg #[.int .u32 r, .int .u32 en, .int .u32 ve, .int .u32 sc, .int .u32 pe, .int .u32 z, .int .u32 v, .int .u64 ct], .int .u32 to]) ∧ Below w.heap.size w w' := by
  have E2 := hide e2
  clear e2
  go_enter Tryd.func64, Tryd.ntmps64
  go_wp2_with (fail)
  obtain ⟨W, hW⟩ : ∃ X, ((w.alloc (.cells #[.int .u32 st, .int .u32 en, .int .u32 ve, .int .u32 sc, .int .u32 ep, .int .u32 ca, .int .u32 va, .int .u64 ct] 26)).alloc (.cells #[.int .u32 0, .int .u32 0, .int .u32 0, .int .u32 0, .int .u32 0, .int .u32 0, .int .u32 0, .int .u64 0] 26)).alloc (.cells #[.int .i64 0, .int .i64 1] 3) = X := ⟨_, rfl⟩
  have hR : RowAt W w.heap.size #[.int .u32 st, .int .u32 en, .int .u32 ve, .int .u32 sc, .int .u32 ep, .int .u32 ca, .int .u32 va, .int .u64 ct] 26 := hW ▸ ((RowAt.new w _ _ _ rfl).al _).al _
  have hZ : RowAt W (w.heap.size + 1) #[.int .u32 0, .int .u32 0, .int .u32 0, .int .u32 0, .int .u32 0, .int .u32 0, .int .u32 0, .int .u64 0] 26 := hW ▸ (RowAt.new _ _ _ _ (by simp)).al _
  have hI : RowAt W (w.heap.size + 1 + 1) #[.int .i64 0, .int .i64 1] 3 := hW ▸ RowAt.new _ _ _ _ (by simp)
  have hB : Below w.heap.size w W := hW ▸ below_three _ _ _ _
  have HR := hide hR
  have HZ := hide hZ
  have HB := hide hB
  rw [hW]
  clear hW hR hZ hB
  refine (HE.out _ _ _ hI).mono ?_
  rintro e w1 ⟨rfl, hb1⟩
  have hR1 := HR.out.bl hb1
  have hZ1 := HZ.out.bl hb1
  have HB1 := hide (below_bl rfl HB.out hb1)
  have l1 := hZ1.lt
  have l1' := hR1.lt
  have t4 := hR1.thaw 4
  have t5 := hR1.thaw 5
  have t6 := hR1.thaw 6
  have c4 : w1.cell? ⟨w.heap.size, 4, none⟩ = some (.int .u32 ep) := hR1.cell 4
  have c5 : w1.cell? ⟨w.heap.size, 5, none⟩ = some (.int .u32 ca) := hR1.cell 5
  have c6 : w1.cell? ⟨w.heap.size, 6, none⟩ = some (.int .u32 va) := hR1.cell 6
  have HR1 := hide hR1
  have HZ1 := hide hZ1
  clear HR HZ HB hI hb1 hR1 hZ1
  go_wp2_with (fail)
  obtain ⟨X, hX⟩ : ∃ X, ((w1.setCell ⟨w.heap.size, 4, none⟩ (.int .u32 pe)).setCell ⟨w.heap.size, 5, none⟩ (.int .u32 z)).setCell ⟨w.heap.size, 6, none⟩ (.int .u32 v) = X := ⟨_, rfl⟩
  have hRX : RowAt X w.heap.size #[.int .u32 st, .int .u32 en, .int .u32 ve, .int .u32 sc, .int .u32 pe, .int .u32 z, .int .u32 v, .int .u64 ct] 26 := hX ▸ HR1.out.put456 _ _ _
  have hZX : RowAt X (w.heap.size + 1) #[.int .u32 0, .int .u32 0, .int .u32 0, .int .u32 0, .int .u32 0, .int .u32 0, .int .u32 0, .int .u64 0] 26 := hX ▸ ((HZ1.out.far (by omega) 4 _).far (by omega) 5 _).far (by omega) 6 _
  have HBX : Hid (Below w.heap.size w X) := hX ▸ ((HB1.out.setCell (p := ⟨w.heap.size, 4, none⟩) (Nat.le_refl _) _).setCell (p := ⟨w.heap.size, 5, none⟩) (Nat.le_refl _) _).setCell (p := ⟨w.heap.size, 6, none⟩) (Nat.le_refl _) _
  have lX := hZX.lt
  have lX' := hRX.lt
  have lX1 : w.heap.size < X.heap.size + 1 := by omega
  have lX2 : w.heap.size < X.heap.size + 1 + 1 := by omega
  have lX3 : w.heap.size < X.heap.size + 1 + 1 + 1 := by omega
  have t0 := hRX.thaw 0
  have c0 : X.cell? ⟨w.heap.size, 0, none⟩ = some (.int .u32 st) := hRX.cell 0
  have HRX := hide hRX
  have HZX := hide hZX
  rw [hX]
  clear hX HR1 HZ1 HB1 hRX hZX l1 l1' t4 t5 t6 c4 c5 c6
  go_region_with (first | (go_at_call 91; refine (HF.out _).mono ?_; rintro e w2 ⟨rfl, o1, o2, rfl⟩) | (go_at_call 90; refine (HS.out _).mono ?_; rintro e w3 ⟨rfl, o3, o4, rfl⟩))
  all_goals
    obtain ⟨Y, hY⟩ : ∃ Y, ((((X.setCell ⟨w.heap.size, 0, none⟩ (.int .u32 x)).alloc o1).alloc o2).alloc o3).alloc o4 = Y := ⟨_, rfl⟩
    have hRY : RowAt Y w.heap.size #[.int .u32 x, .int .u32 en, .int .u32 ve, .int .u32 sc, .int .u32 pe, .int .u32 z, .int .u32 v, .int .u64 ct] 26 := hY ▸ ((((HRX.out.put 0 _).al _).al _).al _).al _
    have hZY : RowAt Y (w.heap.size + 1) #[.int .u32 0, .int .u32 0, .int .u32 0, .int .u32 0, .int .u32 0, .int .u32 0, .int .u32 0, .int .u64 0] 26 := hY ▸ ((((HZX.out.far (by omega) 0 _).al _).al _).al _).al _
    have HBY : Hid (Below w.heap.size w Y) := by
      rw [← hY]
      have h1 := HBX.out.setCell (p := ⟨w.heap.size, 0, none⟩) (Nat.le_refl _) (.int .u32 x)
      have h2 := h1.size
      exact ((((h1.alloc h2 _).alloc (by simp; omega) _).alloc (by simp; omega) _).alloc (by simp; omega) _)
    have lY := hZY.lt
    have lY' := hRY.lt
    have tY := hRY.thaw 0
    have cY : Y.cell? ⟨w.heap.size, 0, none⟩ = some (.int .u32 x) := hRY.cell 0
    have c2 : Y.cell? ⟨w.heap.size, 2, none⟩ = some (.int .u32 ve) := hRY.cell 2
    have HRY := hide hRY
    have HZY := hide hZY
    rw [hY]
    clear hY hRY hZY HRX HZX HBX lX lX' lX1 lX2 lX3 t0 c0
    go_wp2_with (first | (go_at_call 90; refine (HS2.out _).mono ?_; rintro e w4 ⟨rfl, o5, o6, rfl⟩))
    obtain ⟨V, hV⟩ : ∃ V, ((((Y.setCell ⟨w.heap.size, 0, none⟩ (.int .u32 r)).alloc o5).alloc o6).alloc (.cells #[.int .i64 0, .int .i64 1] 3)).drew = V := ⟨_, rfl⟩
    have HRV : Hid (RowAt V w.heap.size #[.int .u32 r, .int .u32 en, .int .u32 ve, .int .u32 sc, .int .u32 pe, .int .u32 z, .int .u32 v, .int .u64 ct] 26) := hV ▸ ((((HRY.out.put 0 _).al _).al _).al _).dr
    have HZV : Hid (RowAt V (w.heap.size + 1) #[.int .u32 0, .int .u32 0, .int .u32 0, .int .u32 0, .int .u32 0, .int .u32 0, .int .u32 0, .int .u64 0] 26) := hV ▸ ((((HZY.out.far (by omega) 0 _).al _).al _).al _).dr
    have hIV : RowAt V (Y.heap.size + 1 + 1) #[.int .i64 0, .int .i64 1] 3 := hV ▸ (RowAt.new _ _ _ _ (by simp)).dr
    have HBV : Hid (Below w.heap.size w V) := by
      rw [← hV]
      have h1 := HBY.out.setCell (p := ⟨w.heap.size, 0, none⟩) (Nat.le_refl _) (.int .u32 r)
      have h2 := h1.size
      exact (((h1.alloc h2 _).alloc (by simp; omega) _).alloc (by simp; omega) _).drew
    rw [hV]
    clear hV HRY HZY HBY
    refine (HV.out _ _ _ hIV).mono ?_
    rintro e w5 ⟨rfl, hb5⟩
    have hR5 := HRV.out.bl hb5
    have hZ5 := HZV.out.bl hb5
    have HB5 := hide (below_bl rfl HBV.out hb5)
    clear hIV hb5 HRV HZV HBV lY lY' tY cY c2
    have c0 : w5.cell? ⟨w.heap.size, 0, none⟩ = some (.int .u32 r) := hR5.cell 0
    have c1 : w5.cell? ⟨w.heap.size, 1, none⟩ = some (.int .u32 en) := hR5.cell 1
    have c2 : w5.cell? ⟨w.heap.size, 2, none⟩ = some (.int .u32 ve) := hR5.cell 2
    have c3 : w5.cell? ⟨w.heap.size, 3, none⟩ = some (.int .u32 sc) := hR5.cell 3
    have c4 : w5.cell? ⟨w.heap.size, 4, none⟩ = some (.int .u32 pe) := hR5.cell 4
    have c5 : w5.cell? ⟨w.heap.size, 5, none⟩ = some (.int .u32 z) := hR5.cell 5
    have c6 : w5.cell? ⟨w.heap.size, 6, none⟩ = some (.int .u32 v) := hR5.cell 6
    have c7 : w5.cell? ⟨w.heap.size, 7, none⟩ = some (.int .u64 ct) := hR5.cell 7
    have z0 : w5.cell? ⟨w.heap.size + 1, 0, none⟩ = some (.int .u32 0) := hZ5.cell 0
    have f0 := hZ5.thaw 0
    have z1 : w5.cell? ⟨w.heap.size + 1, 1, none⟩ = some (.int .u32 0) := hZ5.cell 1
    have f1 := hZ5.thaw 1
    have z2 : w5.cell? ⟨w.heap.size + 1, 2, none⟩ = some (.int .u32 0) := hZ5.cell 2
    have f2 := hZ5.thaw 2
    have z3 : w5.cell? ⟨w.heap.size + 1, 3, none⟩ = some (.int .u32 0) := hZ5.cell 3
    have f3 := hZ5.thaw 3
    have z4 : w5.cell? ⟨w.heap.size + 1, 4, none⟩ = some (.int .u32 0) := hZ5.cell 4
    have f4 := hZ5.thaw 4
    have z5 : w5.cell? ⟨w.heap.size + 1, 5, none⟩ = some (.int .u32 0) := hZ5.cell 5
    have f5 := hZ5.thaw 5
    have z6 : w5.cell? ⟨w.heap.size + 1, 6, none⟩ = some (.int .u32 0) := hZ5.cell 6
    have f6 := hZ5.thaw 6
    have z7 : w5.cell? ⟨w.heap.size + 1, 7, none⟩ = some (.int .u64 0) := hZ5.cell 7
    have f7 := hZ5.thaw 7
    have HF5 := hide (hZ5.put8 (.int .u32 r) (.int .u32 en) (.int .u32 ve) (.int .u32 sc) (.int .u32 pe) (.int .u32 z) (.int .u32 v) (.int .u64 ct))
    have HG5 := hide (below_put8 HB5.out (Nat.le_succ _) (.int .u32 r) (.int .u32 en) (.int .u32 ve) (.int .u32 sc) (.int .u32 pe) (.int .u32 z) (.int .u32 v) (.int .u64 ct))
    clear hR5 hZ5
    go_wp2
    have hF := HF5.out
    have hG := HG5.out
    clear HF5 HG5
    generalize ((((((((w5.setCell ⟨w.heap.size + 1, 0, none⟩ (.int .u32 r)).setCell ⟨w.heap.size + 1, 1, none⟩ (.int .u32 en)).setCell ⟨w.heap.size + 1, 2, none⟩ (.int .u32 ve)).setCell ⟨w.heap.size + 1, 3, none⟩ (.int .u32 sc)).setCell ⟨w.heap.size + 1, 4, none⟩ (.int .u32 pe)).setCell ⟨w.heap.size + 1, 5, none⟩ (.int .u32 z)).setCell ⟨w.heap.size + 1, 6, none⟩ (.int .u32 v)).setCell ⟨w.heap.size + 1, 7, none⟩ (.int .u64 ct)) = Q at hF hG ⊢
    refine bodyPost_ret (results_cell_tmp_row Tryd.results64 _ _ (w.heap.size + 1) _ _ _ _ rfl hF Tryd.underlying26 rfl size_rstate) rfl ?_
    exact ⟨ret_two rfl E2.out.symm, hG⟩
set_option maxHeartbeats 2000000 in
theorem rtrap_b (st en ve sc ep ca va ct pc pe x f r vv z v to : Int) (w : World)
    (HE : Hid (∀ w b t, RowAt w b #[.int .i64 0, .int .i64 1] t → Calls Tryd.prog 79 #[.int .u32 pc, .slice (some ⟨b, 0, none⟩) 2 2] w fun e w' => e = .returned (.int .u32 pe) ∧ Below w.heap.size w w'))
    (HV : Hid (∀ w b t, RowAt w b #[.int .i64 0, .int .i64 1] t → Calls Tryd.prog 79 #[.int .u32 ve, .slice (some ⟨b, 0, none⟩) 2 2] w fun e w' => e = .returned (.int .u32 vv) ∧ Below w.heap.size w w'))
    (HF : Hid (∀ w, Calls Tryd.prog 91 #[.int .u32 st, .int .i64 3, .int .i64 1] w fun e w' => e = .returned (.int .u32 f) ∧ ∃ o o', w' = (w.alloc o).alloc o'))
    (HS : Hid (∀ w, Calls Tryd.prog 90 #[.int .u32 st, .int .i64 7, .int .i64 1, .int .u32 f] w fun e w' => e = .returned (.int .u32 x) ∧ ∃ o o', w' = (w.alloc o).alloc o'))
    (HS2 : Hid (∀ w, Calls Tryd.prog 90 #[.int .u32 x, .int .i64 3, .int .i64 1, .int .u32 0] w fun e w' => e = .returned (.int .u32 r) ∧ ∃ o o', w' = (w.alloc o).alloc o'))
    (e1 : (ve % 2 == 1) = true) (e3 : (2147483648 ≤ z) = False) (e2 : to = vv) (t0 : 0 ≤ ve) :
    Calls Tryd.prog 64 #[.agg #[.int .u32 st, .int .u32 en, .int .u32 ve, .int .u32 sc, .int .u32 ep, .int .u32 ca, .int .u32 va, .int .u64 ct], .int .u32 z, .int .u32 v, .int .u32 pc] w fun e w' => e = .returned (.tuple #[.agg #[.int .u32 r, .int .u32 en, .int .u32 ve, .int .u32 sc, .int .u32 pe, .int .u32 z, .int .u32 v, .int .u64 ct], .int .u32 to]) ∧ Below w.heap.size w w' := by
  have E2 := hide e2
  clear e2
  go_enter Tryd.func64, Tryd.ntmps64
  go_wp2_with (fail)
  obtain ⟨W, hW⟩ : ∃ X, ((w.alloc (.cells #[.int .u32 st, .int .u32 en, .int .u32 ve, .int .u32 sc, .int .u32 ep, .int .u32 ca, .int .u32 va, .int .u64 ct] 26)).alloc (.cells #[.int .u32 0, .int .u32 0, .int .u32 0, .int .u32 0, .int .u32 0, .int .u32 0, .int .u32 0, .int .u64 0] 26)).alloc (.cells #[.int .i64 0, .int .i64 1] 3) = X := ⟨_, rfl⟩
  have hR : RowAt W w.heap.size #[.int .u32 st, .int .u32 en, .int .u32 ve, .int .u32 sc, .int .u32 ep, .int .u32 ca, .int .u32 va, .int .u64 ct] 26 := hW ▸ ((RowAt.new w _ _ _ rfl).al _).al _
  have hZ : RowAt W (w.heap.size + 1) #[.int .u32 0, .int .u32 0, .int .u32 0, .int .u32 0, .int .u32 0, .int .u32 0, .int .u32 0, .int .u64 0] 26 := hW ▸ (RowAt.new _ _ _ _ (by simp)).al _
  have hI : RowAt W (w.heap.size + 1 + 1) #[.int .i64 0, .int .i64 1] 3 := hW ▸ RowAt.new _ _ _ _ (by simp)
  have hB : Below w.heap.size w W := hW ▸ below_three _ _ _ _
  have HR := hide hR
  have HZ := hide hZ
  have HB := hide hB
  rw [hW]
  clear hW hR hZ hB
  refine (HE.out _ _ _ hI).mono ?_
  rintro e w1 ⟨rfl, hb1⟩
  have hR1 := HR.out.bl hb1
  have hZ1 := HZ.out.bl hb1
  have HB1 := hide (below_bl rfl HB.out hb1)
  have l1 := hZ1.lt
  have l1' := hR1.lt
  have t4 := hR1.thaw 4
  have t5 := hR1.thaw 5
  have t6 := hR1.thaw 6
  have c4 : w1.cell? ⟨w.heap.size, 4, none⟩ = some (.int .u32 ep) := hR1.cell 4
  have c5 : w1.cell? ⟨w.heap.size, 5, none⟩ = some (.int .u32 ca) := hR1.cell 5
  have c6 : w1.cell? ⟨w.heap.size, 6, none⟩ = some (.int .u32 va) := hR1.cell 6
  have HR1 := hide hR1
  have HZ1 := hide hZ1
  clear HR HZ HB hI hb1 hR1 hZ1
  go_wp2_with (fail)
  obtain ⟨X, hX⟩ : ∃ X, ((w1.setCell ⟨w.heap.size, 4, none⟩ (.int .u32 pe)).setCell ⟨w.heap.size, 5, none⟩ (.int .u32 z)).setCell ⟨w.heap.size, 6, none⟩ (.int .u32 v) = X := ⟨_, rfl⟩
  have hRX : RowAt X w.heap.size #[.int .u32 st, .int .u32 en, .int .u32 ve, .int .u32 sc, .int .u32 pe, .int .u32 z, .int .u32 v, .int .u64 ct] 26 := hX ▸ HR1.out.put456 _ _ _
  have hZX : RowAt X (w.heap.size + 1) #[.int .u32 0, .int .u32 0, .int .u32 0, .int .u32 0, .int .u32 0, .int .u32 0, .int .u32 0, .int .u64 0] 26 := hX ▸ ((HZ1.out.far (by omega) 4 _).far (by omega) 5 _).far (by omega) 6 _
  have HBX : Hid (Below w.heap.size w X) := hX ▸ ((HB1.out.setCell (p := ⟨w.heap.size, 4, none⟩) (Nat.le_refl _) _).setCell (p := ⟨w.heap.size, 5, none⟩) (Nat.le_refl _) _).setCell (p := ⟨w.heap.size, 6, none⟩) (Nat.le_refl _) _
  have lX := hZX.lt
  have lX' := hRX.lt
  have lX1 : w.heap.size < X.heap.size + 1 := by omega
  have lX2 : w.heap.size < X.heap.size + 1 + 1 := by omega
  have lX3 : w.heap.size < X.heap.size + 1 + 1 + 1 := by omega
  have t0 := hRX.thaw 0
  have c0 : X.cell? ⟨w.heap.size, 0, none⟩ = some (.int .u32 st) := hRX.cell 0
  have HRX := hide hRX
  have HZX := hide hZX
  rw [hX]
  clear hX HR1 HZ1 HB1 hRX hZX l1 l1' t4 t5 t6 c4 c5 c6
  go_region_with (first | (go_at_call 91; refine (HF.out _).mono ?_; rintro e w2 ⟨rfl, o1, o2, rfl⟩) | (go_at_call 90; refine (HS.out _).mono ?_; rintro e w3 ⟨rfl, o3, o4, rfl⟩))
  all_goals
    obtain ⟨Y, hY⟩ : ∃ Y, ((((X.setCell ⟨w.heap.size, 0, none⟩ (.int .u32 x)).alloc o1).alloc o2).alloc o3).alloc o4 = Y := ⟨_, rfl⟩
    have hRY : RowAt Y w.heap.size #[.int .u32 x, .int .u32 en, .int .u32 ve, .int .u32 sc, .int .u32 pe, .int .u32 z, .int .u32 v, .int .u64 ct] 26 := hY ▸ ((((HRX.out.put 0 _).al _).al _).al _).al _
    have hZY : RowAt Y (w.heap.size + 1) #[.int .u32 0, .int .u32 0, .int .u32 0, .int .u32 0, .int .u32 0, .int .u32 0, .int .u32 0, .int .u64 0] 26 := hY ▸ ((((HZX.out.far (by omega) 0 _).al _).al _).al _).al _
    have HBY : Hid (Below w.heap.size w Y) := by
      rw [← hY]
      have h1 := HBX.out.setCell (p := ⟨w.heap.size, 0, none⟩) (Nat.le_refl _) (.int .u32 x)
      have h2 := h1.size
      exact ((((h1.alloc h2 _).alloc (by simp; omega) _).alloc (by simp; omega) _).alloc (by simp; omega) _)
    have lY := hZY.lt
    have lY' := hRY.lt
    have tY := hRY.thaw 0
    have cY : Y.cell? ⟨w.heap.size, 0, none⟩ = some (.int .u32 x) := hRY.cell 0
    have c2 : Y.cell? ⟨w.heap.size, 2, none⟩ = some (.int .u32 ve) := hRY.cell 2
    have HRY := hide hRY
    have HZY := hide hZY
    rw [hY]
    clear hY hRY hZY HRX HZX HBX lX lX' lX1 lX2 lX3 t0 c0
    go_wp2_with (first | (go_at_call 90; refine (HS2.out _).mono ?_; rintro e w4 ⟨rfl, o5, o6, rfl⟩))
    obtain ⟨V, hV⟩ : ∃ V, ((((Y.setCell ⟨w.heap.size, 0, none⟩ (.int .u32 r)).alloc o5).alloc o6).alloc (.cells #[.int .i64 0, .int .i64 1] 3)).drew = V := ⟨_, rfl⟩
    have HRV : Hid (RowAt V w.heap.size #[.int .u32 r, .int .u32 en, .int .u32 ve, .int .u32 sc, .int .u32 pe, .int .u32 z, .int .u32 v, .int .u64 ct] 26) := hV ▸ ((((HRY.out.put 0 _).al _).al _).al _).dr
    have HZV : Hid (RowAt V (w.heap.size + 1) #[.int .u32 0, .int .u32 0, .int .u32 0, .int .u32 0, .int .u32 0, .int .u32 0, .int .u32 0, .int .u64 0] 26) := hV ▸ ((((HZY.out.far (by omega) 0 _).al _).al _).al _).dr
    have hIV : RowAt V (Y.heap.size + 1 + 1) #[.int .i64 0, .int .i64 1] 3 := hV ▸ (RowAt.new _ _ _ _ (by simp)).dr
    have HBV : Hid (Below w.heap.size w V) := by
      rw [← hV]
      have h1 := HBY.out.setCell (p := ⟨w.heap.size, 0, none⟩) (Nat.le_refl _) (.int .u32 r)
      have h2 := h1.size
      exact (((h1.alloc h2 _).alloc (by simp; omega) _).alloc (by simp; omega) _).drew
    rw [hV]
    clear hV HRY HZY HBY
    refine (HV.out _ _ _ hIV).mono ?_
    rintro e w5 ⟨rfl, hb5⟩
    have hR5 := HRV.out.bl hb5
    have hZ5 := HZV.out.bl hb5
    have HB5 := hide (below_bl rfl HBV.out hb5)
    clear hIV hb5 HRV HZV HBV lY lY' tY cY c2
    have c0 : w5.cell? ⟨w.heap.size, 0, none⟩ = some (.int .u32 r) := hR5.cell 0
    have c1 : w5.cell? ⟨w.heap.size, 1, none⟩ = some (.int .u32 en) := hR5.cell 1
    have c2 : w5.cell? ⟨w.heap.size, 2, none⟩ = some (.int .u32 ve) := hR5.cell 2
    have c3 : w5.cell? ⟨w.heap.size, 3, none⟩ = some (.int .u32 sc) := hR5.cell 3
    have c4 : w5.cell? ⟨w.heap.size, 4, none⟩ = some (.int .u32 pe) := hR5.cell 4
    have c5 : w5.cell? ⟨w.heap.size, 5, none⟩ = some (.int .u32 z) := hR5.cell 5
    have c6 : w5.cell? ⟨w.heap.size, 6, none⟩ = some (.int .u32 v) := hR5.cell 6
    have c7 : w5.cell? ⟨w.heap.size, 7, none⟩ = some (.int .u64 ct) := hR5.cell 7
    have z0 : w5.cell? ⟨w.heap.size + 1, 0, none⟩ = some (.int .u32 0) := hZ5.cell 0
    have f0 := hZ5.thaw 0
    have z1 : w5.cell? ⟨w.heap.size + 1, 1, none⟩ = some (.int .u32 0) := hZ5.cell 1
    have f1 := hZ5.thaw 1
    have z2 : w5.cell? ⟨w.heap.size + 1, 2, none⟩ = some (.int .u32 0) := hZ5.cell 2
    have f2 := hZ5.thaw 2
    have z3 : w5.cell? ⟨w.heap.size + 1, 3, none⟩ = some (.int .u32 0) := hZ5.cell 3
    have f3 := hZ5.thaw 3
    have z4 : w5.cell? ⟨w.heap.size + 1, 4, none⟩ = some (.int .u32 0) := hZ5.cell 4
    have f4 := hZ5.thaw 4
    have z5 : w5.cell? ⟨w.heap.size + 1, 5, none⟩ = some (.int .u32 0) := hZ5.cell 5
    have f5 := hZ5.thaw 5
    have z6 : w5.cell? ⟨w.heap.size + 1, 6, none⟩ = some (.int .u32 0) := hZ5.cell 6
    have f6 := hZ5.thaw 6
    have z7 : w5.cell? ⟨w.heap.size + 1, 7, none⟩ = some (.int .u64 0) := hZ5.cell 7
    have f7 := hZ5.thaw 7
    have HF5 := hide (hZ5.put8 (.int .u32 r) (.int .u32 en) (.int .u32 ve) (.int .u32 sc) (.int .u32 pe) (.int .u32 z) (.int .u32 v) (.int .u64 ct))
    have HG5 := hide (below_put8 HB5.out (Nat.le_succ _) (.int .u32 r) (.int .u32 en) (.int .u32 ve) (.int .u32 sc) (.int .u32 pe) (.int .u32 z) (.int .u32 v) (.int .u64 ct))
    clear hR5 hZ5
    go_wp2
    have hF := HF5.out
    have hG := HG5.out
    clear HF5 HG5
    generalize ((((((((w5.setCell ⟨w.heap.size + 1, 0, none⟩ (.int .u32 r)).setCell ⟨w.heap.size + 1, 1, none⟩ (.int .u32 en)).setCell ⟨w.heap.size + 1, 2, none⟩ (.int .u32 ve)).setCell ⟨w.heap.size + 1, 3, none⟩ (.int .u32 sc)).setCell ⟨w.heap.size + 1, 4, none⟩ (.int .u32 pe)).setCell ⟨w.heap.size + 1, 5, none⟩ (.int .u32 z)).setCell ⟨w.heap.size + 1, 6, none⟩ (.int .u32 v)).setCell ⟨w.heap.size + 1, 7, none⟩ (.int .u64 ct)) = Q at hF hG ⊢
    refine bodyPost_ret (results_cell_tmp_row Tryd.results64 _ _ (w.heap.size + 1) _ _ _ _ rfl hF Tryd.underlying26 rfl size_rstate) rfl ?_
    exact ⟨ret_two rfl E2.out.symm, hG⟩
set_option maxHeartbeats 2000000 in
theorem rtrap_c (st en ve sc ep ca va ct pc pe x f r vv z v to : Int) (w : World)
    (HE : Hid (∀ w b t, RowAt w b #[.int .i64 0, .int .i64 1] t → Calls Tryd.prog 79 #[.int .u32 pc, .slice (some ⟨b, 0, none⟩) 2 2] w fun e w' => e = .returned (.int .u32 pe) ∧ Below w.heap.size w w'))
    (HV : Hid (∀ w b t, RowAt w b #[.int .i64 0, .int .i64 1] t → Calls Tryd.prog 79 #[.int .u32 ve, .slice (some ⟨b, 0, none⟩) 2 2] w fun e w' => e = .returned (.int .u32 vv) ∧ Below w.heap.size w w'))
    (HF : Hid (∀ w, Calls Tryd.prog 91 #[.int .u32 st, .int .i64 3, .int .i64 1] w fun e w' => e = .returned (.int .u32 f) ∧ ∃ o o', w' = (w.alloc o).alloc o'))
    (HS : Hid (∀ w, Calls Tryd.prog 90 #[.int .u32 st, .int .i64 7, .int .i64 1, .int .u32 f] w fun e w' => e = .returned (.int .u32 x) ∧ ∃ o o', w' = (w.alloc o).alloc o'))
    (HS2 : Hid (∀ w, Calls Tryd.prog 90 #[.int .u32 x, .int .i64 3, .int .i64 1, .int .u32 0] w fun e w' => e = .returned (.int .u32 r) ∧ ∃ o o', w' = (w.alloc o).alloc o'))
    (e1 : (ve % 2 == 1) = true) (e3 : 2147483648 ≤ z) (e4 : z ≤ 4294967295) (e2 : to = (vv + 4 * (z - 2147483648) % 4294967296) % 4294967296) (t0 : 0 ≤ ve) :
    Calls Tryd.prog 64 #[.agg #[.int .u32 st, .int .u32 en, .int .u32 ve, .int .u32 sc, .int .u32 ep, .int .u32 ca, .int .u32 va, .int .u64 ct], .int .u32 z, .int .u32 v, .int .u32 pc] w fun e w' => e = .returned (.tuple #[.agg #[.int .u32 r, .int .u32 en, .int .u32 ve, .int .u32 sc, .int .u32 pe, .int .u32 z, .int .u32 v, .int .u64 ct], .int .u32 to]) ∧ Below w.heap.size w w' := by
  have E2 := hide e2
  clear e2
  go_enter Tryd.func64, Tryd.ntmps64
  go_wp2_with (fail)
  obtain ⟨W, hW⟩ : ∃ X, ((w.alloc (.cells #[.int .u32 st, .int .u32 en, .int .u32 ve, .int .u32 sc, .int .u32 ep, .int .u32 ca, .int .u32 va, .int .u64 ct] 26)).alloc (.cells #[.int .u32 0, .int .u32 0, .int .u32 0, .int .u32 0, .int .u32 0, .int .u32 0, .int .u32 0, .int .u64 0] 26)).alloc (.cells #[.int .i64 0, .int .i64 1] 3) = X := ⟨_, rfl⟩
  have hR : RowAt W w.heap.size #[.int .u32 st, .int .u32 en, .int .u32 ve, .int .u32 sc, .int .u32 ep, .int .u32 ca, .int .u32 va, .int .u64 ct] 26 := hW ▸ ((RowAt.new w _ _ _ rfl).al _).al _
  have hZ : RowAt W (w.heap.size + 1) #[.int .u32 0, .int .u32 0, .int .u32 0, .int .u32 0, .int .u32 0, .int .u32 0, .int .u32 0, .int .u64 0] 26 := hW ▸ (RowAt.new _ _ _ _ (by simp)).al _
  have hI : RowAt W (w.heap.size + 1 + 1) #[.int .i64 0, .int .i64 1] 3 := hW ▸ RowAt.new _ _ _ _ (by simp)
  have hB : Below w.heap.size w W := hW ▸ below_three _ _ _ _
  have HR := hide hR
  have HZ := hide hZ
  have HB := hide hB
  rw [hW]
  clear hW hR hZ hB
  refine (HE.out _ _ _ hI).mono ?_
  rintro e w1 ⟨rfl, hb1⟩
  have hR1 := HR.out.bl hb1
  have hZ1 := HZ.out.bl hb1
  have HB1 := hide (below_bl rfl HB.out hb1)
  have l1 := hZ1.lt
  have l1' := hR1.lt
  have t4 := hR1.thaw 4
  have t5 := hR1.thaw 5
  have t6 := hR1.thaw 6
  have c4 : w1.cell? ⟨w.heap.size, 4, none⟩ = some (.int .u32 ep) := hR1.cell 4
  have c5 : w1.cell? ⟨w.heap.size, 5, none⟩ = some (.int .u32 ca) := hR1.cell 5
  have c6 : w1.cell? ⟨w.heap.size, 6, none⟩ = some (.int .u32 va) := hR1.cell 6
  have HR1 := hide hR1
  have HZ1 := hide hZ1
  clear HR HZ HB hI hb1 hR1 hZ1
  go_wp2_with (fail)
  obtain ⟨X, hX⟩ : ∃ X, ((w1.setCell ⟨w.heap.size, 4, none⟩ (.int .u32 pe)).setCell ⟨w.heap.size, 5, none⟩ (.int .u32 z)).setCell ⟨w.heap.size, 6, none⟩ (.int .u32 v) = X := ⟨_, rfl⟩
  have hRX : RowAt X w.heap.size #[.int .u32 st, .int .u32 en, .int .u32 ve, .int .u32 sc, .int .u32 pe, .int .u32 z, .int .u32 v, .int .u64 ct] 26 := hX ▸ HR1.out.put456 _ _ _
  have hZX : RowAt X (w.heap.size + 1) #[.int .u32 0, .int .u32 0, .int .u32 0, .int .u32 0, .int .u32 0, .int .u32 0, .int .u32 0, .int .u64 0] 26 := hX ▸ ((HZ1.out.far (by omega) 4 _).far (by omega) 5 _).far (by omega) 6 _
  have HBX : Hid (Below w.heap.size w X) := hX ▸ ((HB1.out.setCell (p := ⟨w.heap.size, 4, none⟩) (Nat.le_refl _) _).setCell (p := ⟨w.heap.size, 5, none⟩) (Nat.le_refl _) _).setCell (p := ⟨w.heap.size, 6, none⟩) (Nat.le_refl _) _
  have lX := hZX.lt
  have lX' := hRX.lt
  have lX1 : w.heap.size < X.heap.size + 1 := by omega
  have lX2 : w.heap.size < X.heap.size + 1 + 1 := by omega
  have lX3 : w.heap.size < X.heap.size + 1 + 1 + 1 := by omega
  have t0 := hRX.thaw 0
  have c0 : X.cell? ⟨w.heap.size, 0, none⟩ = some (.int .u32 st) := hRX.cell 0
  have HRX := hide hRX
  have HZX := hide hZX
  rw [hX]
  clear hX HR1 HZ1 HB1 hRX hZX l1 l1' t4 t5 t6 c4 c5 c6
  go_region_with (first | (go_at_call 91; refine (HF.out _).mono ?_; rintro e w2 ⟨rfl, o1, o2, rfl⟩) | (go_at_call 90; refine (HS.out _).mono ?_; rintro e w3 ⟨rfl, o3, o4, rfl⟩))
  all_goals
    obtain ⟨Y, hY⟩ : ∃ Y, ((((X.setCell ⟨w.heap.size, 0, none⟩ (.int .u32 x)).alloc o1).alloc o2).alloc o3).alloc o4 = Y := ⟨_, rfl⟩
    have hRY : RowAt Y w.heap.size #[.int .u32 x, .int .u32 en, .int .u32 ve, .int .u32 sc, .int .u32 pe, .int .u32 z, .int .u32 v, .int .u64 ct] 26 := hY ▸ ((((HRX.out.put 0 _).al _).al _).al _).al _
    have hZY : RowAt Y (w.heap.size + 1) #[.int .u32 0, .int .u32 0, .int .u32 0, .int .u32 0, .int .u32 0, .int .u32 0, .int .u32 0, .int .u64 0] 26 := hY ▸ ((((HZX.out.far (by omega) 0 _).al _).al _).al _).al _
    have HBY : Hid (Below w.heap.size w Y) := by
      rw [← hY]
      have h1 := HBX.out.setCell (p := ⟨w.heap.size, 0, none⟩) (Nat.le_refl _) (.int .u32 x)
      have h2 := h1.size
      exact ((((h1.alloc h2 _).alloc (by simp; omega) _).alloc (by simp; omega) _).alloc (by simp; omega) _)
    have lY := hZY.lt
    have lY' := hRY.lt
    have tY := hRY.thaw 0
    have cY : Y.cell? ⟨w.heap.size, 0, none⟩ = some (.int .u32 x) := hRY.cell 0
    have c2 : Y.cell? ⟨w.heap.size, 2, none⟩ = some (.int .u32 ve) := hRY.cell 2
    have HRY := hide hRY
    have HZY := hide hZY
    rw [hY]
    clear hY hRY hZY HRX HZX HBX lX lX' lX1 lX2 lX3 t0 c0
    go_wp2_with (first | (go_at_call 90; refine (HS2.out _).mono ?_; rintro e w4 ⟨rfl, o5, o6, rfl⟩))
    obtain ⟨V, hV⟩ : ∃ V, ((((Y.setCell ⟨w.heap.size, 0, none⟩ (.int .u32 r)).alloc o5).alloc o6).alloc (.cells #[.int .i64 0, .int .i64 1] 3)).drew = V := ⟨_, rfl⟩
    have HRV : Hid (RowAt V w.heap.size #[.int .u32 r, .int .u32 en, .int .u32 ve, .int .u32 sc, .int .u32 pe, .int .u32 z, .int .u32 v, .int .u64 ct] 26) := hV ▸ ((((HRY.out.put 0 _).al _).al _).al _).dr
    have HZV : Hid (RowAt V (w.heap.size + 1) #[.int .u32 0, .int .u32 0, .int .u32 0, .int .u32 0, .int .u32 0, .int .u32 0, .int .u32 0, .int .u64 0] 26) := hV ▸ ((((HZY.out.far (by omega) 0 _).al _).al _).al _).dr
    have hIV : RowAt V (Y.heap.size + 1 + 1) #[.int .i64 0, .int .i64 1] 3 := hV ▸ (RowAt.new _ _ _ _ (by simp)).dr
    have HBV : Hid (Below w.heap.size w V) := by
      rw [← hV]
      have h1 := HBY.out.setCell (p := ⟨w.heap.size, 0, none⟩) (Nat.le_refl _) (.int .u32 r)
      have h2 := h1.size
      exact (((h1.alloc h2 _).alloc (by simp; omega) _).alloc (by simp; omega) _).drew
    rw [hV]
    clear hV HRY HZY HBY
    refine (HV.out _ _ _ hIV).mono ?_
    rintro e w5 ⟨rfl, hb5⟩
    have hR5 := HRV.out.bl hb5
    have hZ5 := HZV.out.bl hb5
    have HB5 := hide (below_bl rfl HBV.out hb5)
    clear hIV hb5 HRV HZV HBV lY lY' tY cY c2
    have c0 : w5.cell? ⟨w.heap.size, 0, none⟩ = some (.int .u32 r) := hR5.cell 0
    have c1 : w5.cell? ⟨w.heap.size, 1, none⟩ = some (.int .u32 en) := hR5.cell 1
    have c2 : w5.cell? ⟨w.heap.size, 2, none⟩ = some (.int .u32 ve) := hR5.cell 2
    have c3 : w5.cell? ⟨w.heap.size, 3, none⟩ = some (.int .u32 sc) := hR5.cell 3
    have c4 : w5.cell? ⟨w.heap.size, 4, none⟩ = some (.int .u32 pe) := hR5.cell 4
    have c5 : w5.cell? ⟨w.heap.size, 5, none⟩ = some (.int .u32 z) := hR5.cell 5
    have c6 : w5.cell? ⟨w.heap.size, 6, none⟩ = some (.int .u32 v) := hR5.cell 6
    have c7 : w5.cell? ⟨w.heap.size, 7, none⟩ = some (.int .u64 ct) := hR5.cell 7
    have z0 : w5.cell? ⟨w.heap.size + 1, 0, none⟩ = some (.int .u32 0) := hZ5.cell 0
    have f0 := hZ5.thaw 0
    have z1 : w5.cell? ⟨w.heap.size + 1, 1, none⟩ = some (.int .u32 0) := hZ5.cell 1
    have f1 := hZ5.thaw 1
    have z2 : w5.cell? ⟨w.heap.size + 1, 2, none⟩ = some (.int .u32 0) := hZ5.cell 2
    have f2 := hZ5.thaw 2
    have z3 : w5.cell? ⟨w.heap.size + 1, 3, none⟩ = some (.int .u32 0) := hZ5.cell 3
    have f3 := hZ5.thaw 3
    have z4 : w5.cell? ⟨w.heap.size + 1, 4, none⟩ = some (.int .u32 0) := hZ5.cell 4
    have f4 := hZ5.thaw 4
    have z5 : w5.cell? ⟨w.heap.size + 1, 5, none⟩ = some (.int .u32 0) := hZ5.cell 5
    have f5 := hZ5.thaw 5
    have z6 : w5.cell? ⟨w.heap.size + 1, 6, none⟩ = some (.int .u32 0) := hZ5.cell 6
    have f6 := hZ5.thaw 6
    have z7 : w5.cell? ⟨w.heap.size + 1, 7, none⟩ = some (.int .u64 0) := hZ5.cell 7
    have f7 := hZ5.thaw 7
    have HF5 := hide (hZ5.put8 (.int .u32 r) (.int .u32 en) (.int .u32 ve) (.int .u32 sc) (.int .u32 pe) (.int .u32 z) (.int .u32 v) (.int .u64 ct))
    have HG5 := hide (below_put8 HB5.out (Nat.le_succ _) (.int .u32 r) (.int .u32 en) (.int .u32 ve) (.int .u32 sc) (.int .u32 pe) (.int .u32 z) (.int .u32 v) (.int .u64 ct))
    clear hR5 hZ5
    go_wp2
    have hF := HF5.out
    have hG := HG5.out
    clear HF5 HG5
    generalize ((((((((w5.setCell ⟨w.heap.size + 1, 0, none⟩ (.int .u32 r)).setCell ⟨w.heap.size + 1, 1, none⟩ (.int .u32 en)).setCell ⟨w.heap.size + 1, 2, none⟩ (.int .u32 ve)).setCell ⟨w.heap.size + 1, 3, none⟩ (.int .u32 sc)).setCell ⟨w.heap.size + 1, 4, none⟩ (.int .u32 pe)).setCell ⟨w.heap.size + 1, 5, none⟩ (.int .u32 z)).setCell ⟨w.heap.size + 1, 6, none⟩ (.int .u32 v)).setCell ⟨w.heap.size + 1, 7, none⟩ (.int .u64 ct)) = Q at hF hG ⊢
    refine bodyPost_ret (results_cell_tmp_row Tryd.results64 _ _ (w.heap.size + 1) _ _ _ _ rfl hF Tryd.underlying26 rfl size_rstate) rfl ?_
    exact ⟨ret_two rfl E2.out.symm, hG⟩

theorem rtrap_any (s : S8) (hs : s.Ok) (cause value pc : Nat) (hc : cause < 4294967296) (hp : pc < 4294967296) (w : World) :
    Calls Tryd.prog 64 #[.agg s.cells, .int .u32 cause, .int .u32 value, .int .u32 pc] w fun e w' => e = .returned (.tuple #[.agg (trapN s cause value pc).cells, .int .u32 (trapTo s.ve cause : Nat)]) ∧ Below w.heap.size w w' := by
  obtain ⟨st, en, ve, sc, ep, ca, va, ct⟩ := s
  obtain ⟨h0, h1, h2, h3, h4, h5, h6, h7⟩ := hs
  dsimp only at h0 h2
  have HE := hide (but2_tr pc hp)
  have HV := hide (but2_tr ve h2)
  have HF := hide (rfld_ex st h0 3)
  have HS := hide (rset_ex st h0 7 (fldOne st 3) (fldOne_lt _ _))
  have HS2 := hide (rset_ex _ (setOne_lt st 7 (fldOne st 3)) 3 0 (by decide))
  rw [trap_st st h0] at HS2
  have HT := trap_to ve cause h2 hc
  by_cases k1 : ve % 2 = 1
  · by_cases k2 : 2147483648 ≤ cause
    · rw [if_pos ⟨k1, k2⟩] at HT
      exact rtrap_c st en ve sc ep ca va ct pc _ _ _ _ _ cause value _ w HE HV HF HS HS2 (by simp; omega) (by omega) (by omega) (by show ((trapTo ve cause : Nat) : Int) = _; rw [HT]; omega) (by omega)
    · rw [if_neg (fun h => k2 h.2)] at HT
      exact rtrap_b st en ve sc ep ca va ct pc _ _ _ _ _ cause value _ w HE HV HF HS HS2 (by simp; omega) (eq_false (by omega)) (by show ((trapTo ve cause : Nat) : Int) = _; rw [HT]) (by omega)
  · rw [if_neg (fun h => k1 h.1)] at HT
    exact rtrap_a st en ve sc ep ca va ct pc _ _ _ _ _ cause value _ w HE HV HF HS HS2 (by simp; omega) (by show ((trapTo ve cause : Nat) : Int) = _; rw [HT]) (by omega)
end Go.Proofs.YtelakpogochifaaDoor
namespace Go.Proofs.YtelakpogochifaaDoor
open Go.RowKit
set_option linter.unusedVariables false

attribute [local go_sem] H.at1

set_option maxHeartbeats 1000000 in
theorem rtrap8 (h : H) (ok : h.Ok) (ca va : Nat) (hc : ca < 4294967296) (w : World) :
    Calls Tryd.prog 29 #[.agg h.cells, .int .u32 ca, .int .u32 va] w fun e w' => e = .returned (.agg (trapH h ca va).cells) ∧ Below w.heap.size w w' := by
  have HT := hide (fun w => rtrap_any h.c ok.c ca va h.pc hc ok.pc w)
  go_enter Tryd.func29, Tryd.ntmps29
  go_wp2_with (first | ((with_reducible refine bx_g w.heap.size h ?_ ?_ ?_); exact rfl; exact rfl; intro W hr hb hz) | ((with_reducible refine al_g (w.heap.size + 1) ?_ ?_); exact hz.out; intro W hq hb' hz'; replace hr := hr.bl (hz.out ▸ hb'); replace hb := hb.trans (hb'.mono (by omega)); replace hz := hz') | ((with_reducible refine ld_gc w.heap.size _ hr ?_ ?_); exact rfl) | ((with_reducible refine ld_gpc w.heap.size _ hr ?_ ?_); exact rfl) | (go_at_call 64; refine (HT.out _).mono ?_; rintro e W ⟨rfl, hbc⟩; replace hr := hr.bl hbc; replace hq := hq.bl hbc; obtain ⟨NI, hNI⟩ : ∃ n, W.heap.size = n := ⟨_, rfl⟩; have lNI : w.heap.size + 2 ≤ NI := (by (have := hz.out; have := hbc.size; omega)); replace hNI := hide hNI; replace hb := below_bl rfl hb hbc) | ((with_reducible refine al_gs NI ?_ ?_); exact hNI.out; intro W hs hb' hz'; replace hr := hr.bl (hNI.out ▸ hb'); replace hq := hq.bl (hNI.out ▸ hb'); replace hb := hb.trans (hb'.mono (by omega))) | ((with_reducible refine st_gs NI _ (trapN h.c ca va h.pc) hs ?_ ?_ ?_); exact rfl; exact rfl; intro W hnew ho; replace hr := hr.only ho (by omega); replace hq := hq.only ho (by omega); replace hs := hnew; replace hb := ho.bel _ _ (by omega) hb) | ((with_reducible refine ld_gs NI _ hs ?_ ?_); exact rfl) | ((with_reducible refine st_gc w.heap.size h (trapN h.c ca va h.pc) hr ?_ ?_ ?_); exact rfl; exact rfl; intro W hnew ho; replace hr := hnew; replace hq := hq.only ho (by omega); replace hb := ho.bel _ _ (by omega) hb) | ((with_reducible refine st_gpc w.heap.size _ (trapTo h.c.ve ca) hr ?_ ?_ ?_); exact rfl; exact rfl; intro W hnew ho; replace hr := hnew; replace hq := hq.only ho (by omega); replace hb := ho.bel _ _ (by omega) hb) | ((with_reducible refine ld_g w.heap.size _ hr ?_ ?_); exact rfl) | ((with_reducible refine st_g (w.heap.size + 1) _ (trapH h ca va) hq ?_ ?_ ?_); exact rfl; exact rfl; intro W hnew ho; replace hr := hr.only ho (by omega); replace hq := hnew; replace hb := ho.bel _ _ (by omega) hb))
  refine bodyPost_ret (results_cell_row Tryd.results29 _ _ (w.heap.size + 1) _ _ _ _ rfl hq Tryd.underlying28 rfl size_g) rfl ?_
  exact ⟨rfl, hb⟩

set_option maxHeartbeats 1000000 in
theorem rreset8 (pc : Nat) (hp : pc < 4294967296) (w : World) :
    Calls Tryd.prog 18 #[.int .u32 pc] w fun e w' => e = .returned (.agg (resetH pc).cells) ∧ Below w.heap.size w w' := by
  have E0 : Hid (Value.int .u32 ((pc : Int) / 4 * 4) = .int .u32 ((pc - pc % 4 : Nat) : Int)) := hide (by congr 1; omega)
  go_enter Tryd.func18, Tryd.ntmps18
  go_wp2_with (first | ((with_reducible refine al_g w.heap.size ?_ ?_); exact rfl; intro W hq hb hz) | ((with_reducible refine bd_gr (pc - pc % 4) ?_ ?_); exact E0.out) | ((with_reducible refine st_g w.heap.size _ (resetH pc) hq ?_ ?_ ?_); exact rfl; exact rfl; intro W hnew ho; replace hq := hnew; replace hb := ho.bel _ _ (by omega) hb))
  refine bodyPost_ret (results_cell_row Tryd.results18 _ _ w.heap.size _ _ _ _ rfl hq Tryd.underlying28 rfl size_g) rfl ?_
  exact ⟨rfl, hb⟩

set_option maxHeartbeats 1000000 in
theorem rcheck_pc (h : H) (ok : h.Ok) (h0 : ¬ h.pc % 4 = 0) (w : World) :
    Calls Tryd.prog 16 #[.agg h.cells] w fun e w' => e = .returned (.int .i64 1) ∧ Below w.heap.size w w' := by
  have t0 : ((h.pc : Int) % 4 != 0) = true := by simp; omega
  clear h0
  go_enter Tryd.func16, Tryd.ntmps16
  go_wp2_with (first | ((with_reducible refine bx_g w.heap.size h ?_ ?_ ?_); exact rfl; exact rfl; intro W hr hb hz; have fx := hr.cell) | ((with_reducible refine ld_gpc w.heap.size _ hr ?_ ?_); exact rfl) | ((with_reducible refine gl_gc w.heap.size h hr ?_ ?_ ?_); exact rfl; exact rfl))
  go_ret
  exact ⟨rfl, hb⟩

set_option maxHeartbeats 1000000 in
theorem rcheck_x (h : H) (ok : h.Ok) (h0 : h.pc % 4 = 0) (h1 : ¬ h.x 0 = 0) (w : World) :
    Calls Tryd.prog 16 #[.agg h.cells] w fun e w' => e = .returned (.int .i64 1) ∧ Below w.heap.size w w' := by
  have t0 : ((h.pc : Int) % 4 != 0) = false := by simp; omega
  have t1 : (((h.x 0 : Nat) : Int) != 0) = true := by simp; omega
  clear h0 h1
  go_enter Tryd.func16, Tryd.ntmps16
  go_wp2_with (first | ((with_reducible refine bx_g w.heap.size h ?_ ?_ ?_); exact rfl; exact rfl; intro W hr hb hz; have fx := hr.cell) | ((with_reducible refine ld_gpc w.heap.size _ hr ?_ ?_); exact rfl) | ((with_reducible refine gl_gc w.heap.size h hr ?_ ?_ ?_); exact rfl; exact rfl))
  go_ret
  exact ⟨rfl, hb⟩

set_option maxHeartbeats 1000000 in
theorem rcheck_ct (h : H) (ok : h.Ok) (h0 : h.pc % 4 = 0) (h1 : h.x 0 = 0) (hm : mayB h.c = true) (w : World) :
    Calls Tryd.prog 16 #[.agg h.cells] w fun e w' => e = .returned (.int .i64 0) ∧ Below w.heap.size w w' := by
  have t0 : ((h.pc : Int) % 4 != 0) = false := by simp; omega
  have t1 : (((h.x 0 : Nat) : Int) != 0) = false := by simp; omega
  clear h0 h1
  have HC := hide (fun w => rcheck_any h.c ok.c w)
  rw [hm] at HC
  rw [show checkR true = 0 from rfl] at HC
  clear hm
  go_enter Tryd.func16, Tryd.ntmps16
  go_wp2_with (first | ((with_reducible refine bx_g w.heap.size h ?_ ?_ ?_); exact rfl; exact rfl; intro W hr hb hz; have fx := hr.cell) | ((with_reducible refine ld_gpc w.heap.size _ hr ?_ ?_); exact rfl) | ((with_reducible refine gl_gc w.heap.size h hr ?_ ?_ ?_); exact rfl; exact rfl) | (go_at_call 43; refine (HC.out _).mono ?_; rintro e W ⟨rfl, hbc⟩; replace hr := hr.bl hbc; replace hb := below_bl rfl hb hbc))
  go_ret
  exact ⟨rfl, hb⟩

set_option maxHeartbeats 1000000 in
theorem rcheck_cf (h : H) (ok : h.Ok) (h0 : h.pc % 4 = 0) (h1 : h.x 0 = 0) (hm : mayB h.c = false) (w : World) :
    Calls Tryd.prog 16 #[.agg h.cells] w fun e w' => e = .returned (.int .i64 1) ∧ Below w.heap.size w w' := by
  have t0 : ((h.pc : Int) % 4 != 0) = false := by simp; omega
  have t1 : (((h.x 0 : Nat) : Int) != 0) = false := by simp; omega
  clear h0 h1
  have HC := hide (fun w => rcheck_any h.c ok.c w)
  rw [hm] at HC
  rw [show checkR false = 1 from rfl] at HC
  clear hm
  go_enter Tryd.func16, Tryd.ntmps16
  go_wp2_with (first | ((with_reducible refine bx_g w.heap.size h ?_ ?_ ?_); exact rfl; exact rfl; intro W hr hb hz; have fx := hr.cell) | ((with_reducible refine ld_gpc w.heap.size _ hr ?_ ?_); exact rfl) | ((with_reducible refine gl_gc w.heap.size h hr ?_ ?_ ?_); exact rfl; exact rfl) | (go_at_call 43; refine (HC.out _).mono ?_; rintro e W ⟨rfl, hbc⟩; replace hr := hr.bl hbc; replace hb := below_bl rfl hb hbc))
  go_ret
  exact ⟨rfl, hb⟩

def rcheckN (h : H) : Int := if mayH h then 0 else 1
theorem rcheck8 (h : H) (ok : h.Ok) (w : World) :
    Calls Tryd.prog 16 #[.agg h.cells] w fun e w' => e = .returned (.int .i64 (rcheckN h)) ∧ Below w.heap.size w w' := by
  unfold rcheckN mayH
  by_cases h0 : h.pc % 4 = 0
  · by_cases h1 : h.x 0 = 0
    · rw [decide_eq_true h0, decide_eq_true h1]
      cases hm : mayB h.c with
      | true => exact rcheck_ct h ok h0 h1 hm w
      | false => exact rcheck_cf h ok h0 h1 hm w
    · rw [decide_eq_false h1]; simp only [Bool.false_and, Bool.and_false]; exact rcheck_x h ok h0 h1 w
  · rw [decide_eq_false h0]; simp only [Bool.false_and]; exact rcheck_pc h ok h0 w
end Go.Proofs.YtelakpogochifaaDoor
namespace Go.Proofs.YtelakpogochifaaDoor
open Go.RowKit
set_option linter.unusedVariables false

attribute [local go_sem] H.at33 H.at35 A6.at0 A6.at1 A6.at2 A6.at3 A6.at4 A6.at5

theorem cs_asks_bl (s : S8) (hs : s.Ok) (l : Nat) (hl : l < 4294967296) (w : World) (hO : OrderAt w) :
    Calls Tryd.prog 38 #[.agg s.cells, .int .u32 l] w fun e w' => e = .returned (.int .u32 (asksN s.st s.en l : Nat)) ∧ Below w.heap.size w w' :=
  (cs_asks_any s hs l hl w hO).mono fun e w' ⟨he, o, hw⟩ => ⟨he, hw ▸ below_one w o⟩
/-- A hart that begins an instruction. -/
def awake (h : H) : H := ⟨h.pc, h.x, false, h.c⟩
def sleeps (h : H) (l : Nat) : Bool := h.wt && ((l &&& h.c.en) &&& 2184 == 0)
def beginH (h : H) (l : Nat) : H × Bool :=
  if sleeps h l then (h, false) else if asksN h.c.st h.c.en l = 0 then (awake h, true) else (trapH (awake h) (asksN h.c.st h.c.en l) 0, true)
theorem asksN_lt (st en l : Nat) : asksN st en l < 4294967296 := by
  unfold asksN
  split
  · decide
  · split
    · decide
    · split
      · decide
      · split <;> decide
theorem awake_ok {h : H} (ok : h.Ok) : (awake h).Ok := ⟨ok.pc, ok.x, ok.c⟩
theorem mask_word (l en : Nat) (hl : l < 4294967296) (he : en < 4294967296) : (bits .and .u32 (bits .and .u32 (l : Int) (en : Int)) 2184 == 0) = ((l &&& en) &&& 2184 == 0) := by
  rw [u32_and_nat l en hl he]
  have := u32_and_nat (l &&& en) 2184 (and_lt hl) (by decide)
  rw [show ((2184 : Nat) : Int) = 2184 from rfl] at this
  rw [this, Bool.eq_iff_iff]; simp
set_option maxHeartbeats 1000000 in
theorem begin_wait (h : H) (ok : h.Ok) (l : Nat) (hl : l < 4294967296) (hw : h.wt = true) (hs : ((l &&& h.c.en) &&& 2184 == 0) = true) (w : World) (hO : OrderAt w) :
    Calls Tryd.prog 12 #[.agg h.cells, .int .u32 l] w fun e w' => e = .returned (.tuple #[.agg (h).cells, .bool false]) ∧ Below w.heap.size w w' := by
  have HO := hide hO
  clear hO
  have HAs := hide (fun w hO => cs_asks_bl h.c ok.c l hl w hO)
  have t0 := mask_word l h.c.en hl ok.c.en
  rw [hs] at t0
  clear hs
  go_enter Tryd.func12, Tryd.ntmps12
  go_wp2_with (first | ((with_reducible refine bx_h w.heap.size h ?_ ?_ ?_); exact rfl; exact rfl; intro W hr hb hz) | ((with_reducible refine al_h (w.heap.size + 1) ?_ ?_); exact hz.out; intro W hq hb' hz'; replace hr := hr.bl (hz.out ▸ hb'); replace hb := hb.trans (hb'.mono (by omega)); replace hz := hz'; have fx := hr.cell) | ((with_reducible refine ld_h w.heap.size _ hr ?_ ?_); exact rfl) | ((with_reducible refine ld_wt w.heap.size _ hr ?_ ?_); exact rfl) | ((with_reducible refine ld_c w.heap.size _ hr ?_ ?_); exact rfl) | ((with_reducible refine st_h (w.heap.size + 1) _ (h) hq ?_ ?_ ?_); exact rfl; exact rfl; intro W hnew ho; replace hr := hr.only ho (by omega); replace hq := hnew; replace hb := ho.bel _ _ (by omega) hb))
  refine bodyPost_ret (results_cell_tmp_row Tryd.results12 _ _ (w.heap.size + 1) _ _ _ _ rfl hq Tryd.underlying31 rfl size_hart) rfl ?_
  exact ⟨rfl, hb⟩

set_option maxHeartbeats 1000000 in
theorem begin_go_a (h : H) (ok : h.Ok) (l : Nat) (hl : l < 4294967296) (hw : h.wt = false) (h0 : asksN h.c.st h.c.en l = 0) (w : World) (hO : OrderAt w) :
    Calls Tryd.prog 12 #[.agg h.cells, .int .u32 l] w fun e w' => e = .returned (.tuple #[.agg (awake h).cells, .bool true]) ∧ Below w.heap.size w w' := by
  have HO := hide hO
  clear hO
  have HAs := hide (fun w hO => cs_asks_bl h.c ok.c l hl w hO)
  have t0 := mask_word l h.c.en hl ok.c.en
  rw [h0] at HAs
  rw [show (((0 : Nat) : Int)) = 0 from rfl] at HAs
  clear h0
  go_enter Tryd.func12, Tryd.ntmps12
  go_wp2_with (first | ((with_reducible refine bx_h w.heap.size h ?_ ?_ ?_); exact rfl; exact rfl; intro W hr hb hz) | ((with_reducible refine al_h (w.heap.size + 1) ?_ ?_); exact hz.out; intro W hq hb' hz'; replace hr := hr.bl (hz.out ▸ hb'); replace hb := hb.trans (hb'.mono (by omega)); replace hz := hz'; have fx := hr.cell) | ((with_reducible refine ld_h w.heap.size _ hr ?_ ?_); exact rfl) | ((with_reducible refine ld_wt w.heap.size _ hr ?_ ?_); exact rfl) | ((with_reducible refine ld_c w.heap.size _ hr ?_ ?_); exact rfl) | ((with_reducible refine st_wt w.heap.size _ false hr ?_ ?_ ?_); exact rfl; exact rfl; intro W hnew ho; replace hq := hq.only ho (by omega); replace hr := hnew; replace hb := ho.bel _ _ (by omega) hb) | (go_at_call 38; refine (HAs.out _ (HO.out.below hb)).mono ?_; rintro e W ⟨rfl, hbc⟩; replace hr := hr.bl hbc; replace hq := hq.bl hbc; replace hb := below_bl rfl hb hbc) | ((with_reducible refine st_h (w.heap.size + 1) _ (awake h) hq ?_ ?_ ?_); exact rfl; exact rfl; intro W hnew ho; replace hr := hr.only ho (by omega); replace hq := hnew; replace hb := ho.bel _ _ (by omega) hb))
  refine bodyPost_ret (results_cell_tmp_row Tryd.results12 _ _ (w.heap.size + 1) _ _ _ _ rfl hq Tryd.underlying31 rfl size_hart) rfl ?_
  exact ⟨rfl, hb⟩

set_option maxHeartbeats 1000000 in
theorem begin_trap_a (h : H) (ok : h.Ok) (l : Nat) (hl : l < 4294967296) (hw : h.wt = false) (h0 : asksN h.c.st h.c.en l ≠ 0) (w : World) (hO : OrderAt w) :
    Calls Tryd.prog 12 #[.agg h.cells, .int .u32 l] w fun e w' => e = .returned (.tuple #[.agg (trapH (awake h) (asksN h.c.st h.c.en l) 0).cells, .bool true]) ∧ Below w.heap.size w w' := by
  have HO := hide hO
  clear hO
  have HAs := hide (fun w hO => cs_asks_bl h.c ok.c l hl w hO)
  have t0 := mask_word l h.c.en hl ok.c.en
  have hal := asksN_lt h.c.st h.c.en l
  have t1 : (((asksN h.c.st h.c.en l : Nat) : Int) != 0) = true := by simp; omega
  clear h0
  generalize asksN h.c.st h.c.en l = ca at HAs t1 hal ⊢
  have HT := hide (fun w => trap_any (awake h) (awake_ok ok) ca 0 hal w)
  rw [show (((0 : Nat) : Int)) = 0 from rfl] at HT
  go_enter Tryd.func12, Tryd.ntmps12
  go_wp2_with (first | ((with_reducible refine bx_h w.heap.size h ?_ ?_ ?_); exact rfl; exact rfl; intro W hr hb hz) | ((with_reducible refine al_h (w.heap.size + 1) ?_ ?_); exact hz.out; intro W hq hb' hz'; replace hr := hr.bl (hz.out ▸ hb'); replace hb := hb.trans (hb'.mono (by omega)); replace hz := hz'; have fx := hr.cell) | ((with_reducible refine ld_h w.heap.size _ hr ?_ ?_); exact rfl) | ((with_reducible refine ld_wt w.heap.size _ hr ?_ ?_); exact rfl) | ((with_reducible refine ld_c w.heap.size _ hr ?_ ?_); exact rfl) | ((with_reducible refine st_wt w.heap.size _ false hr ?_ ?_ ?_); exact rfl; exact rfl; intro W hnew ho; replace hq := hq.only ho (by omega); replace hr := hnew; replace hb := ho.bel _ _ (by omega) hb) | (go_at_call 38; refine (HAs.out _ (HO.out.below hb)).mono ?_; rintro e W ⟨rfl, hbc⟩; replace hr := hr.bl hbc; replace hq := hq.bl hbc; replace hb := below_bl rfl hb hbc) | (go_at_call 22; refine (HT.out _).mono ?_; rintro e W ⟨rfl, hbc⟩; replace hr := hr.bl hbc; replace hq := hq.bl hbc; replace hb := below_bl rfl hb hbc) | ((with_reducible refine st_h w.heap.size _ (trapH (awake h) ca 0) hr ?_ ?_ ?_); exact rfl; exact rfl; intro W hnew ho; replace hq := hq.only ho (by omega); replace hr := hnew; replace hb := ho.bel _ _ (by omega) hb) | ((with_reducible refine st_h (w.heap.size + 1) _ (trapH (awake h) ca 0) hq ?_ ?_ ?_); exact rfl; exact rfl; intro W hnew ho; replace hr := hr.only ho (by omega); replace hq := hnew; replace hb := ho.bel _ _ (by omega) hb))
  refine bodyPost_ret (results_cell_tmp_row Tryd.results12 _ _ (w.heap.size + 1) _ _ _ _ rfl hq Tryd.underlying31 rfl size_hart) rfl ?_
  exact ⟨rfl, hb⟩

set_option maxHeartbeats 1000000 in
theorem begin_go_b (h : H) (ok : h.Ok) (l : Nat) (hl : l < 4294967296) (hw : h.wt = true) (hs : ((l &&& h.c.en) &&& 2184 == 0) = false) (h0 : asksN h.c.st h.c.en l = 0) (w : World) (hO : OrderAt w) :
    Calls Tryd.prog 12 #[.agg h.cells, .int .u32 l] w fun e w' => e = .returned (.tuple #[.agg (awake h).cells, .bool true]) ∧ Below w.heap.size w w' := by
  have HO := hide hO
  clear hO
  have HAs := hide (fun w hO => cs_asks_bl h.c ok.c l hl w hO)
  have t0 := mask_word l h.c.en hl ok.c.en
  rw [hs] at t0
  clear hs
  rw [h0] at HAs
  rw [show (((0 : Nat) : Int)) = 0 from rfl] at HAs
  clear h0
  go_enter Tryd.func12, Tryd.ntmps12
  go_wp2_with (first | ((with_reducible refine bx_h w.heap.size h ?_ ?_ ?_); exact rfl; exact rfl; intro W hr hb hz) | ((with_reducible refine al_h (w.heap.size + 1) ?_ ?_); exact hz.out; intro W hq hb' hz'; replace hr := hr.bl (hz.out ▸ hb'); replace hb := hb.trans (hb'.mono (by omega)); replace hz := hz'; have fx := hr.cell) | ((with_reducible refine ld_h w.heap.size _ hr ?_ ?_); exact rfl) | ((with_reducible refine ld_wt w.heap.size _ hr ?_ ?_); exact rfl) | ((with_reducible refine ld_c w.heap.size _ hr ?_ ?_); exact rfl) | ((with_reducible refine st_wt w.heap.size _ false hr ?_ ?_ ?_); exact rfl; exact rfl; intro W hnew ho; replace hq := hq.only ho (by omega); replace hr := hnew; replace hb := ho.bel _ _ (by omega) hb) | (go_at_call 38; refine (HAs.out _ (HO.out.below hb)).mono ?_; rintro e W ⟨rfl, hbc⟩; replace hr := hr.bl hbc; replace hq := hq.bl hbc; replace hb := below_bl rfl hb hbc) | ((with_reducible refine st_h (w.heap.size + 1) _ (awake h) hq ?_ ?_ ?_); exact rfl; exact rfl; intro W hnew ho; replace hr := hr.only ho (by omega); replace hq := hnew; replace hb := ho.bel _ _ (by omega) hb))
  refine bodyPost_ret (results_cell_tmp_row Tryd.results12 _ _ (w.heap.size + 1) _ _ _ _ rfl hq Tryd.underlying31 rfl size_hart) rfl ?_
  exact ⟨rfl, hb⟩

set_option maxHeartbeats 1000000 in
theorem begin_trap_b (h : H) (ok : h.Ok) (l : Nat) (hl : l < 4294967296) (hw : h.wt = true) (hs : ((l &&& h.c.en) &&& 2184 == 0) = false) (h0 : asksN h.c.st h.c.en l ≠ 0) (w : World) (hO : OrderAt w) :
    Calls Tryd.prog 12 #[.agg h.cells, .int .u32 l] w fun e w' => e = .returned (.tuple #[.agg (trapH (awake h) (asksN h.c.st h.c.en l) 0).cells, .bool true]) ∧ Below w.heap.size w w' := by
  have HO := hide hO
  clear hO
  have HAs := hide (fun w hO => cs_asks_bl h.c ok.c l hl w hO)
  have t0 := mask_word l h.c.en hl ok.c.en
  rw [hs] at t0
  clear hs
  have hal := asksN_lt h.c.st h.c.en l
  have t1 : (((asksN h.c.st h.c.en l : Nat) : Int) != 0) = true := by simp; omega
  clear h0
  generalize asksN h.c.st h.c.en l = ca at HAs t1 hal ⊢
  have HT := hide (fun w => trap_any (awake h) (awake_ok ok) ca 0 hal w)
  rw [show (((0 : Nat) : Int)) = 0 from rfl] at HT
  go_enter Tryd.func12, Tryd.ntmps12
  go_wp2_with (first | ((with_reducible refine bx_h w.heap.size h ?_ ?_ ?_); exact rfl; exact rfl; intro W hr hb hz) | ((with_reducible refine al_h (w.heap.size + 1) ?_ ?_); exact hz.out; intro W hq hb' hz'; replace hr := hr.bl (hz.out ▸ hb'); replace hb := hb.trans (hb'.mono (by omega)); replace hz := hz'; have fx := hr.cell) | ((with_reducible refine ld_h w.heap.size _ hr ?_ ?_); exact rfl) | ((with_reducible refine ld_wt w.heap.size _ hr ?_ ?_); exact rfl) | ((with_reducible refine ld_c w.heap.size _ hr ?_ ?_); exact rfl) | ((with_reducible refine st_wt w.heap.size _ false hr ?_ ?_ ?_); exact rfl; exact rfl; intro W hnew ho; replace hq := hq.only ho (by omega); replace hr := hnew; replace hb := ho.bel _ _ (by omega) hb) | (go_at_call 38; refine (HAs.out _ (HO.out.below hb)).mono ?_; rintro e W ⟨rfl, hbc⟩; replace hr := hr.bl hbc; replace hq := hq.bl hbc; replace hb := below_bl rfl hb hbc) | (go_at_call 22; refine (HT.out _).mono ?_; rintro e W ⟨rfl, hbc⟩; replace hr := hr.bl hbc; replace hq := hq.bl hbc; replace hb := below_bl rfl hb hbc) | ((with_reducible refine st_h w.heap.size _ (trapH (awake h) ca 0) hr ?_ ?_ ?_); exact rfl; exact rfl; intro W hnew ho; replace hq := hq.only ho (by omega); replace hr := hnew; replace hb := ho.bel _ _ (by omega) hb) | ((with_reducible refine st_h (w.heap.size + 1) _ (trapH (awake h) ca 0) hq ?_ ?_ ?_); exact rfl; exact rfl; intro W hnew ho; replace hr := hr.only ho (by omega); replace hq := hnew; replace hb := ho.bel _ _ (by omega) hb))
  refine bodyPost_ret (results_cell_tmp_row Tryd.results12 _ _ (w.heap.size + 1) _ _ _ _ rfl hq Tryd.underlying31 rfl size_hart) rfl ?_
  exact ⟨rfl, hb⟩

theorem begin_any (h : H) (ok : h.Ok) (l : Nat) (hl : l < 4294967296) (w : World) (hO : OrderAt w) :
    Calls Tryd.prog 12 #[.agg h.cells, .int .u32 l] w fun e w' => e = .returned (.tuple #[.agg (beginH h l).1.cells, .bool (beginH h l).2]) ∧ Below w.heap.size w w' := by
  unfold beginH sleeps
  cases hw : h.wt with
  | false =>
    simp only [Bool.false_and, Bool.false_eq_true, if_false]
    by_cases h0 : asksN h.c.st h.c.en l = 0
    · rw [if_pos h0]; exact begin_go_a h ok l hl hw h0 w hO
    · rw [if_neg h0]; exact begin_trap_a h ok l hl hw h0 w hO
  | true =>
    simp only [Bool.true_and]
    cases hs : ((l &&& h.c.en) &&& 2184 == 0) with
    | true => simp only [if_true]; exact begin_wait h ok l hl hw hs w hO
    | false =>
      simp only [Bool.false_eq_true, if_false]
      by_cases h0 : asksN h.c.st h.c.en l = 0
      · rw [if_pos h0]; exact begin_go_b h ok l hl hw hs h0 w hO
      · rw [if_neg h0]; exact begin_trap_b h ok l hl hw hs h0 w hO
set_option maxHeartbeats 400000 in
theorem isReg_yes (r : Nat) (hr : r < 32) (w : World) : Calls Tryd.prog 44 #[.int .i64 r] w fun e w' => e = .returned (.bool true) ∧ w' = w := by
  have t0 : (0 : Int) ≤ r := by omega
  have t1 : (r : Int) < 32 := by omega
  go_enter Tryd.func44, Tryd.ntmps44
  go_wp2
  go_ret
  exact ⟨rfl, rfl⟩
set_option maxHeartbeats 400000 in
theorem loaded_1t (pl rd va v : Nat) (hv : v < 4294967296) (w : World) : Calls Tryd.prog 47 #[.agg (A6.cells ⟨1, pl, 1, true, (rd : Nat), va⟩), .int .u32 v] w fun e w' => e = .returned (.int .u32 (signW v 8 : Nat)) ∧ Below w.heap.size w w' := by
  have HS := hide (fun w => sign_any v hv 8 w)
  go_enter Tryd.func47, Tryd.ntmps47
  go_wp2_with (first | ((with_reducible refine bx_a w.heap.size ⟨1, pl, 1, true, (rd : Nat), va⟩ ?_ ?_ ?_); exact rfl; exact rfl; intro W ha hb hz; have fa := ha.cell) | (go_at_call 81; refine (HS.out _).mono ?_; rintro e W2 ⟨rfl, rfl⟩))
  go_ret
  exact ⟨rfl, hb⟩
set_option maxHeartbeats 400000 in
theorem loaded_1f (pl rd va v : Nat) (hv : v < 4294967296) (w : World) : Calls Tryd.prog 47 #[.agg (A6.cells ⟨1, pl, 1, false, (rd : Nat), va⟩), .int .u32 v] w fun e w' => e = .returned (.int .u32 (fieldW v 0 8 : Nat)) ∧ Below w.heap.size w w' := by
  have HS := hide (fun w => field_any v hv 0 8 (by decide) (by decide) (by decide) w)
  go_enter Tryd.func47, Tryd.ntmps47
  go_wp2_with (first | ((with_reducible refine bx_a w.heap.size ⟨1, pl, 1, false, (rd : Nat), va⟩ ?_ ?_ ?_); exact rfl; exact rfl; intro W ha hb hz; have fa := ha.cell) | (go_at_call 82; refine (HS.out _).mono ?_; rintro e W2 ⟨rfl, rfl⟩))
  go_ret
  exact ⟨rfl, hb⟩
set_option maxHeartbeats 400000 in
theorem loaded_2t (pl rd va v : Nat) (hv : v < 4294967296) (w : World) : Calls Tryd.prog 47 #[.agg (A6.cells ⟨1, pl, 2, true, (rd : Nat), va⟩), .int .u32 v] w fun e w' => e = .returned (.int .u32 (signW v 16 : Nat)) ∧ Below w.heap.size w w' := by
  have HS := hide (fun w => sign_any v hv 16 w)
  go_enter Tryd.func47, Tryd.ntmps47
  go_wp2_with (first | ((with_reducible refine bx_a w.heap.size ⟨1, pl, 2, true, (rd : Nat), va⟩ ?_ ?_ ?_); exact rfl; exact rfl; intro W ha hb hz; have fa := ha.cell) | (go_at_call 81; refine (HS.out _).mono ?_; rintro e W2 ⟨rfl, rfl⟩))
  go_ret
  exact ⟨rfl, hb⟩
set_option maxHeartbeats 400000 in
theorem loaded_2f (pl rd va v : Nat) (hv : v < 4294967296) (w : World) : Calls Tryd.prog 47 #[.agg (A6.cells ⟨1, pl, 2, false, (rd : Nat), va⟩), .int .u32 v] w fun e w' => e = .returned (.int .u32 (fieldW v 0 16 : Nat)) ∧ Below w.heap.size w w' := by
  have HS := hide (fun w => field_any v hv 0 16 (by decide) (by decide) (by decide) w)
  go_enter Tryd.func47, Tryd.ntmps47
  go_wp2_with (first | ((with_reducible refine bx_a w.heap.size ⟨1, pl, 2, false, (rd : Nat), va⟩ ?_ ?_ ?_); exact rfl; exact rfl; intro W ha hb hz; have fa := ha.cell) | (go_at_call 82; refine (HS.out _).mono ?_; rintro e W2 ⟨rfl, rfl⟩))
  go_ret
  exact ⟨rfl, hb⟩
set_option maxHeartbeats 400000 in
theorem loaded_4t (pl rd va v : Nat) (hv : v < 4294967296) (w : World) : Calls Tryd.prog 47 #[.agg (A6.cells ⟨1, pl, 4, true, (rd : Nat), va⟩), .int .u32 v] w fun e w' => e = .returned (.int .u32 (signW v 32 : Nat)) ∧ Below w.heap.size w w' := by
  have HS := hide (fun w => sign_any v hv 32 w)
  go_enter Tryd.func47, Tryd.ntmps47
  go_wp2_with (first | ((with_reducible refine bx_a w.heap.size ⟨1, pl, 4, true, (rd : Nat), va⟩ ?_ ?_ ?_); exact rfl; exact rfl; intro W ha hb hz; have fa := ha.cell) | (go_at_call 81; refine (HS.out _).mono ?_; rintro e W2 ⟨rfl, rfl⟩))
  go_ret
  exact ⟨rfl, hb⟩
set_option maxHeartbeats 400000 in
theorem loaded_4f (pl rd va v : Nat) (hv : v < 4294967296) (w : World) : Calls Tryd.prog 47 #[.agg (A6.cells ⟨1, pl, 4, false, (rd : Nat), va⟩), .int .u32 v] w fun e w' => e = .returned (.int .u32 (fieldW v 0 32 : Nat)) ∧ Below w.heap.size w w' := by
  have HS := hide (fun w => field_any v hv 0 32 (by decide) (by decide) (by decide) w)
  go_enter Tryd.func47, Tryd.ntmps47
  go_wp2_with (first | ((with_reducible refine bx_a w.heap.size ⟨1, pl, 4, false, (rd : Nat), va⟩ ?_ ?_ ?_); exact rfl; exact rfl; intro W ha hb hz; have fa := ha.cell) | (go_at_call 82; refine (HS.out _).mono ?_; rintro e W2 ⟨rfl, rfl⟩))
  go_ret
  exact ⟨rfl, hb⟩
end Go.Proofs.YtelakpogochifaaDoor
namespace Go.Proofs.YtelakpogochifaaDoor
open Go.RowKit
set_option linter.unusedVariables false

theorem has_mask (k : Nat) : (2184 : Nat).testBit k = (k == 3 || k == 7 || k == 11) := by
  by_cases hk : k < 12
  · revert k; decide
  · rw [Nat.testBit_lt_two_pow (Nat.lt_of_lt_of_le (by decide : 2184 < 2 ^ 12) (Nat.pow_le_pow_right (by decide) (by omega)))]
    have h3 : (k == 3) = false := by simp; omega
    have h7 : (k == 7) = false := by simp; omega
    have h11 : (k == 11) = false := by simp; omega
    rw [h3, h7, h11]; rfl
theorem mask_bits (x : Nat) : (x &&& 2184 == 0) = !(x.testBit 3 || x.testBit 7 || x.testBit 11) := by
  cases h3 : x.testBit 3 with
  | true =>
    have : (x &&& 2184).testBit 3 = true := by rw [Nat.testBit_and, h3, has_mask]; rfl
    rw [Bool.eq_iff_iff]; simp; intro h; rw [h] at this; simp at this
  | false =>
    cases h7 : x.testBit 7 with
    | true =>
      have : (x &&& 2184).testBit 7 = true := by rw [Nat.testBit_and, h7, has_mask]; rfl
      rw [Bool.eq_iff_iff]; simp; intro h; rw [h] at this; simp at this
    | false =>
      cases h11 : x.testBit 11 with
      | true =>
        have : (x &&& 2184).testBit 11 = true := by rw [Nat.testBit_and, h11, has_mask]; rfl
        rw [Bool.eq_iff_iff]; simp; intro h; rw [h] at this; simp at this
      | false =>
        have : x &&& 2184 = 0 := by
          apply Nat.eq_of_testBit_eq
          intro k
          rw [Nat.testBit_and, has_mask, Nat.zero_testBit]
          by_cases e3 : k = 3
          · subst e3; rw [h3]; rfl
          · by_cases e7 : k = 7
            · subst e7; rw [h7]; rfl
            · by_cases e11 : k = 11
              · subst e11; rw [h11]; rfl
              · rw [beq_eq_false_iff_ne.mpr e3, beq_eq_false_iff_ne.mpr e7, beq_eq_false_iff_ne.mpr e11]; simp
        rw [this]; rfl
/-- Whether a line below place k of the three asks. -/
def askK (a0 b0 a1 b1 a2 b2 : Bool) (k : Nat) : Bool := (decide (0 < k) && (a0 && b0)) || (decide (1 < k) && (a1 && b1)) || (decide (2 < k) && (a2 && b2))
theorem mask_ask (l en : Nat) : ((l &&& en) &&& 2184 == 0) = !(askK (l.testBit 3) (en.testBit 3) (l.testBit 7) (en.testBit 7) (l.testBit 11) (en.testBit 11) 3) := by
  rw [mask_bits, Nat.testBit_and, Nat.testBit_and, Nat.testBit_and]; rfl
def listC : Array Value := #[.int .i64 3, .int .i64 7, .int .i64 11]
theorem bs_list {ops : Array Oper} {rest : List Oper} {dst : Option Tmp} {ty : TypeId} {pos : String} {after : Array Edge} {a : Act} {w : World} {Q : Exit → Act → World → Prop} {parts : Array (Nat × Operand)} (N : Nat) (hN : w.heap.size = N) (hp : Tryd.prog.builtSlice 3 3 (parts.map fun (i, x) => (i, a.eval x)).toList = some listC)
    (k : ∀ W, RowAt W N listC 3 → Below N w W → Hid (W.heap.size = N + 1) → wpList Tryd.prog ops Q rest (a.put dst (.slice (some ⟨N, 0, none⟩) 3 3)) W) :
    wpList Tryd.prog ops Q (⟨dst, .buildSlice 82 3 parts, ty, pos, after, none⟩ :: rest) a w := by
  subst hN
  exact Great.wpList_buildSliceTo rfl _ 3 3 parts rfl _ rfl dst rfl Tryd.underlying82 listC hp (k _ (RowAt.new w _ listC 3 rfl) (below_one w _) (hide (by simp)))

set_option maxRecDepth 100000 in
set_option maxHeartbeats 2000000 in
theorem rbegin8 (h : H) (ok : h.Ok) (l : Nat) (hl : l < 4294967296) (w : World) :
    Calls Tryd.prog 13 #[.agg h.cells, .int .u32 l] w fun e w' => e = .returned (.tuple #[.agg (beginH h l).1.cells, .bool (beginH h l).2]) ∧ Below w.heap.size w w' := by
  have h1 : h.c.en < 4294967296 := ok.c.en
  have H3 := hide (mask_ask l h.c.en)
  obtain ⟨ans, hA⟩ : ∃ ans, beginH h l = ans := ⟨_, rfl⟩
  rw [hA]
  have HA := hide hA
  clear hA
  have l0 := bit_int l 3 (by decide)
  have e0 := bit_int h.c.en 3 (by decide)
  have l1 := bit_int l 7 (by decide)
  have e1 := bit_int h.c.en 7 (by decide)
  have l2 := bit_int l 11 (by decide)
  have e2 := bit_int h.c.en 11 (by decide)
  have HAs := hide (fun w => rasks_any h.c ok.c l hl w)
  have HX := hide (fun (W : World) (hr : RowAt W w.heap.size h.cells 28) => (hr.cell 35).trans (H.at35 h))
  have HB := hide (fun v h a w => bit_any v h a w)
  generalize l.testBit 3 = a0 at *
  generalize h.c.en.testBit 3 = b0 at *
  generalize l.testBit 7 = a1 at *
  generalize h.c.en.testBit 7 = b1 at *
  generalize l.testBit 11 = a2 at *
  generalize h.c.en.testBit 11 = b2 at *
  rw [show ((3 : Nat) : Int) = 3 from rfl] at l0 e0
  rw [show ((7 : Nat) : Int) = 7 from rfl] at l1 e1
  rw [show ((11 : Nat) : Int) = 11 from rfl] at l2 e2
  go_enter Tryd.func13, Tryd.ntmps13
  go_wp2_with (first | ((with_reducible refine bx_g w.heap.size h ?_ ?_ ?_); exact rfl; exact rfl; intro W hr hb hz) | ((with_reducible refine al_g (w.heap.size + 1) ?_ ?_); exact hz.out; intro W hq hb' hz'; replace hr := hr.bl (hz.out ▸ hb'); replace hb := hb.trans (hb'.mono (by omega)); replace hz := hz') | ((with_reducible refine bs_list (w.heap.size + 2) ?_ ?_ ?_); exact hz.out; kernel_rfl; intro W hl' hb' hz'; replace hr := hr.bl (hz.out ▸ hb'); replace hq := hq.bl (hz.out ▸ hb'); replace hb := hb.trans (hb'.mono (by omega)); replace hz := hz'))
  go_loopw [6, 8] (fun q i wr => ∃ (k : Nat) (p : Bool), k ≤ 3 ∧ i = .int .i64 k ∧ q = .bool p ∧ p = askK a0 b0 a1 b1 a2 b2 k ∧ RowAt wr w.heap.size h.cells 28 ∧ RowAt wr (w.heap.size + 1) zeroH.cells 28 ∧ wr.cell? ⟨w.heap.size, 35, none⟩ = some (.int .u32 (h.c.en : Nat)) ∧ wr.cell? ⟨w.heap.size + 2, 0, none⟩ = some (.int .i64 3) ∧ wr.cell? ⟨w.heap.size + 2, 1, none⟩ = some (.int .i64 7) ∧ wr.cell? ⟨w.heap.size + 2, 2, none⟩ = some (.int .i64 11) ∧ Below w.heap.size w wr) (fun _ i _ => 3 - (intOf i).toNat)
  case atStart => exact ⟨0, false, by omega, rfl, rfl, by simp [askK], hr, hq, HX.out _ hr, hl'.cell 0, hl'.cell 1, hl'.cell 2, hb⟩
  case round =>
    obtain ⟨k, p, hk, rfl, rfl, hp, hr, hq, x1, y0, y1, y2, hB⟩ := hrel
    have HBl := hide hB
    have HP := hide hp
    have HR := hide hr
    have HQ := hide hq
    clear hB hp
    have hk' : k = 0 ∨ k = 1 ∨ k = 2 ∨ k = 3 := by omega
    rcases hk' with rfl | rfl | rfl | rfl
    · clear hr hq
      cases p
      · cases a0
        · all_goals
            go_wp2
            go_quiet ((go_at_call 39; exact Calls.quiet_of_same (HB.out _ (by assumption) _ _)))
            go_wp2
            go_roundw
            case rel => exact ⟨1, false, by omega, by go_num, rfl, by (have := HP.out; revert this; simp [askK]), HR.out.dn _, HQ.out.dn _, x1, y0, y1, y2, below_dn HBl.out _⟩
            case measure => simp [intOf]
        · cases b0
          · all_goals
              go_wp2
              go_quiet ((go_at_call 39; exact Calls.quiet_of_same (HB.out _ (by assumption) _ _)))
              go_wp2
              go_roundw
              case rel => exact ⟨1, false, by omega, by go_num, rfl, by (have := HP.out; revert this; simp [askK]), HR.out.dn _, HQ.out.dn _, x1, y0, y1, y2, below_dn HBl.out _⟩
              case measure => simp [intOf]
          · all_goals
              go_wp2
              go_quiet ((go_at_call 39; exact Calls.quiet_of_same (HB.out _ (by assumption) _ _)))
              go_wp2
              go_roundw
              case rel => exact ⟨1, true, by omega, by go_num, rfl, by (have := HP.out; revert this; simp [askK]), HR.out.dn _, HQ.out.dn _, x1, y0, y1, y2, below_dn HBl.out _⟩
              case measure => simp [intOf]
      · all_goals
          go_wp2
          go_quiet ((go_at_call 39; exact Calls.quiet_of_same (HB.out _ (by assumption) _ _)))
          go_wp2
          go_roundw
          case rel => exact ⟨1, true, by omega, by go_num, rfl, by (have := HP.out; revert this; simp [askK]; try grind), HR.out.dn _, HQ.out.dn _, x1, y0, y1, y2, below_dn HBl.out _⟩
          case measure => simp [intOf]
    · clear hr hq
      cases p
      · cases a1
        · all_goals
            go_wp2
            go_quiet ((go_at_call 39; exact Calls.quiet_of_same (HB.out _ (by assumption) _ _)))
            go_wp2
            go_roundw
            case rel => exact ⟨2, false, by omega, by go_num, rfl, by (have := HP.out; revert this; simp [askK]), HR.out.dn _, HQ.out.dn _, x1, y0, y1, y2, below_dn HBl.out _⟩
            case measure => simp [intOf]
        · cases b1
          · all_goals
              go_wp2
              go_quiet ((go_at_call 39; exact Calls.quiet_of_same (HB.out _ (by assumption) _ _)))
              go_wp2
              go_roundw
              case rel => exact ⟨2, false, by omega, by go_num, rfl, by (have := HP.out; revert this; simp [askK]), HR.out.dn _, HQ.out.dn _, x1, y0, y1, y2, below_dn HBl.out _⟩
              case measure => simp [intOf]
          · all_goals
              go_wp2
              go_quiet ((go_at_call 39; exact Calls.quiet_of_same (HB.out _ (by assumption) _ _)))
              go_wp2
              go_roundw
              case rel => exact ⟨2, true, by omega, by go_num, rfl, by (have := HP.out; revert this; simp [askK]), HR.out.dn _, HQ.out.dn _, x1, y0, y1, y2, below_dn HBl.out _⟩
              case measure => simp [intOf]
      · all_goals
          go_wp2
          go_quiet ((go_at_call 39; exact Calls.quiet_of_same (HB.out _ (by assumption) _ _)))
          go_wp2
          go_roundw
          case rel => exact ⟨2, true, by omega, by go_num, rfl, by (have := HP.out; revert this; simp [askK]; try grind), HR.out.dn _, HQ.out.dn _, x1, y0, y1, y2, below_dn HBl.out _⟩
          case measure => simp [intOf]
    · clear hr hq
      cases p
      · cases a2
        · all_goals
            go_wp2
            go_quiet ((go_at_call 39; exact Calls.quiet_of_same (HB.out _ (by assumption) _ _)))
            go_wp2
            go_roundw
            case rel => exact ⟨3, false, by omega, by go_num, rfl, by (have := HP.out; revert this; simp [askK]), HR.out.dn _, HQ.out.dn _, x1, y0, y1, y2, below_dn HBl.out _⟩
            case measure => simp [intOf]
        · cases b2
          · all_goals
              go_wp2
              go_quiet ((go_at_call 39; exact Calls.quiet_of_same (HB.out _ (by assumption) _ _)))
              go_wp2
              go_roundw
              case rel => exact ⟨3, false, by omega, by go_num, rfl, by (have := HP.out; revert this; simp [askK]), HR.out.dn _, HQ.out.dn _, x1, y0, y1, y2, below_dn HBl.out _⟩
              case measure => simp [intOf]
          · all_goals
              go_wp2
              go_quiet ((go_at_call 39; exact Calls.quiet_of_same (HB.out _ (by assumption) _ _)))
              go_wp2
              go_roundw
              case rel => exact ⟨3, true, by omega, by go_num, rfl, by (have := HP.out; revert this; simp [askK]), HR.out.dn _, HQ.out.dn _, x1, y0, y1, y2, below_dn HBl.out _⟩
              case measure => simp [intOf]
      · all_goals
          go_wp2
          go_quiet ((go_at_call 39; exact Calls.quiet_of_same (HB.out _ (by assumption) _ _)))
          go_wp2
          go_roundw
          case rel => exact ⟨3, true, by omega, by go_num, rfl, by (have := HP.out; revert this; simp [askK]; try grind), HR.out.dn _, HQ.out.dn _, x1, y0, y1, y2, below_dn HBl.out _⟩
          case measure => simp [intOf]
    · have hb := HBl.out
      have H4 := H3.out
      rw [← HP.out] at H4
      clear HBl HP HR HQ
      clear x1 y0 y1 y2
      have hA := HA.out
      unfold beginH sleeps at hA
      rw [H4] at hA
      clear H3 H4 HA
      cases hw : h.wt with
      | true =>
        cases p with
        | false =>
          simp only [hw, Bool.not_false, Bool.and_self, if_true] at hA
          replace hA := hide hA
          go_wp2_with (first | ((with_reducible refine ld_gwt w.heap.size _ hr ?_ ?_); exact rfl) | ((with_reducible refine ld_gc w.heap.size _ hr ?_ ?_); exact rfl) | ((with_reducible refine ld_g w.heap.size _ hr ?_ ?_); exact rfl) | ((with_reducible refine st_g (w.heap.size + 1) _ h hq ?_ ?_ ?_); exact rfl; exact rfl; intro W hnew ho; replace hr := hr.only ho (by omega); replace hq := hnew; replace hb := ho.bel _ _ (by omega) hb))
          refine bodyPost_ret (results_cell_tmp_row Tryd.results13 _ _ (w.heap.size + 1) _ _ _ _ rfl hq Tryd.underlying28 rfl size_g) rfl ?_
          exact ⟨by (rw [← hA.out]; rfl), hb⟩
        | true =>
          simp only [hw, Bool.not_true, Bool.and_false, Bool.false_eq_true, if_false] at hA
          by_cases h0 : asksN h.c.st h.c.en l = 0
          · rw [if_pos h0] at hA
            rw [h0] at HAs
            rw [show (((0 : Nat) : Int)) = 0 from rfl] at HAs
            clear h0
            replace hA := hide hA
            go_wp2_with (first | ((with_reducible refine ld_gwt w.heap.size _ hr ?_ ?_); exact rfl) | ((with_reducible refine ld_gc w.heap.size _ hr ?_ ?_); exact rfl) | ((with_reducible refine ld_g w.heap.size _ hr ?_ ?_); exact rfl) | ((with_reducible refine st_gwt w.heap.size _ false hr ?_ ?_ ?_); exact rfl; exact rfl; intro W hnew ho; replace hq := hq.only ho (by omega); replace hr := hnew; replace hb := ho.bel _ _ (by omega) hb) | (go_at_call 40; refine (HAs.out _).mono ?_; rintro e W ⟨rfl, hbc⟩; replace hr := hr.bl hbc; replace hq := hq.bl hbc; replace hb := below_bl rfl hb hbc) | ((with_reducible refine st_g (w.heap.size + 1) _ (awake h) hq ?_ ?_ ?_); exact rfl; exact rfl; intro W hnew ho; replace hr := hr.only ho (by omega); replace hq := hnew; replace hb := ho.bel _ _ (by omega) hb))
            refine bodyPost_ret (results_cell_tmp_row Tryd.results13 _ _ (w.heap.size + 1) _ _ _ _ rfl hq Tryd.underlying28 rfl size_g) rfl ?_
            exact ⟨by (rw [← hA.out]; rfl), hb⟩
          · rw [if_neg h0] at hA
            have hal := asksN_lt h.c.st h.c.en l
            have t1 : (((asksN h.c.st h.c.en l : Nat) : Int) != 0) = true := by simp; omega
            clear h0
            generalize asksN h.c.st h.c.en l = ca at HAs t1 hal hA
            have HT := hide (fun w => rtrap8 (awake h) (awake_ok ok) ca 0 hal w)
            rw [show (((0 : Nat) : Int)) = 0 from rfl] at HT
            replace hA := hide hA
            go_wp2_with (first | ((with_reducible refine ld_gwt w.heap.size _ hr ?_ ?_); exact rfl) | ((with_reducible refine ld_gc w.heap.size _ hr ?_ ?_); exact rfl) | ((with_reducible refine ld_g w.heap.size _ hr ?_ ?_); exact rfl) | ((with_reducible refine st_gwt w.heap.size _ false hr ?_ ?_ ?_); exact rfl; exact rfl; intro W hnew ho; replace hq := hq.only ho (by omega); replace hr := hnew; replace hb := ho.bel _ _ (by omega) hb) | (go_at_call 40; refine (HAs.out _).mono ?_; rintro e W ⟨rfl, hbc⟩; replace hr := hr.bl hbc; replace hq := hq.bl hbc; replace hb := below_bl rfl hb hbc) | (go_at_call 29; refine (HT.out _).mono ?_; rintro e W ⟨rfl, hbc⟩; replace hr := hr.bl hbc; replace hq := hq.bl hbc; replace hb := below_bl rfl hb hbc) | ((with_reducible refine st_g w.heap.size _ (trapH (awake h) ca 0) hr ?_ ?_ ?_); exact rfl; exact rfl; intro W hnew ho; replace hq := hq.only ho (by omega); replace hr := hnew; replace hb := ho.bel _ _ (by omega) hb) | ((with_reducible refine st_g (w.heap.size + 1) _ (trapH (awake h) ca 0) hq ?_ ?_ ?_); exact rfl; exact rfl; intro W hnew ho; replace hr := hr.only ho (by omega); replace hq := hnew; replace hb := ho.bel _ _ (by omega) hb))
            refine bodyPost_ret (results_cell_tmp_row Tryd.results13 _ _ (w.heap.size + 1) _ _ _ _ rfl hq Tryd.underlying28 rfl size_g) rfl ?_
            exact ⟨by (rw [← hA.out]; rfl), hb⟩
      | false =>
        simp only [hw, Bool.false_and, Bool.false_eq_true, if_false] at hA
        cases p
        all_goals
          by_cases h0 : asksN h.c.st h.c.en l = 0
          · rw [if_pos h0] at hA
            rw [h0] at HAs
            rw [show (((0 : Nat) : Int)) = 0 from rfl] at HAs
            clear h0
            replace hA := hide hA
            go_wp2_with (first | ((with_reducible refine ld_gwt w.heap.size _ hr ?_ ?_); exact rfl) | ((with_reducible refine ld_gc w.heap.size _ hr ?_ ?_); exact rfl) | ((with_reducible refine ld_g w.heap.size _ hr ?_ ?_); exact rfl) | ((with_reducible refine st_gwt w.heap.size _ false hr ?_ ?_ ?_); exact rfl; exact rfl; intro W hnew ho; replace hq := hq.only ho (by omega); replace hr := hnew; replace hb := ho.bel _ _ (by omega) hb) | (go_at_call 40; refine (HAs.out _).mono ?_; rintro e W ⟨rfl, hbc⟩; replace hr := hr.bl hbc; replace hq := hq.bl hbc; replace hb := below_bl rfl hb hbc) | ((with_reducible refine st_g (w.heap.size + 1) _ (awake h) hq ?_ ?_ ?_); exact rfl; exact rfl; intro W hnew ho; replace hr := hr.only ho (by omega); replace hq := hnew; replace hb := ho.bel _ _ (by omega) hb))
            refine bodyPost_ret (results_cell_tmp_row Tryd.results13 _ _ (w.heap.size + 1) _ _ _ _ rfl hq Tryd.underlying28 rfl size_g) rfl ?_
            exact ⟨by (rw [← hA.out]; rfl), hb⟩
          · rw [if_neg h0] at hA
            have hal := asksN_lt h.c.st h.c.en l
            have t1 : (((asksN h.c.st h.c.en l : Nat) : Int) != 0) = true := by simp; omega
            clear h0
            generalize asksN h.c.st h.c.en l = ca at HAs t1 hal hA
            have HT := hide (fun w => rtrap8 (awake h) (awake_ok ok) ca 0 hal w)
            rw [show (((0 : Nat) : Int)) = 0 from rfl] at HT
            replace hA := hide hA
            go_wp2_with (first | ((with_reducible refine ld_gwt w.heap.size _ hr ?_ ?_); exact rfl) | ((with_reducible refine ld_gc w.heap.size _ hr ?_ ?_); exact rfl) | ((with_reducible refine ld_g w.heap.size _ hr ?_ ?_); exact rfl) | ((with_reducible refine st_gwt w.heap.size _ false hr ?_ ?_ ?_); exact rfl; exact rfl; intro W hnew ho; replace hq := hq.only ho (by omega); replace hr := hnew; replace hb := ho.bel _ _ (by omega) hb) | (go_at_call 40; refine (HAs.out _).mono ?_; rintro e W ⟨rfl, hbc⟩; replace hr := hr.bl hbc; replace hq := hq.bl hbc; replace hb := below_bl rfl hb hbc) | (go_at_call 29; refine (HT.out _).mono ?_; rintro e W ⟨rfl, hbc⟩; replace hr := hr.bl hbc; replace hq := hq.bl hbc; replace hb := below_bl rfl hb hbc) | ((with_reducible refine st_g w.heap.size _ (trapH (awake h) ca 0) hr ?_ ?_ ?_); exact rfl; exact rfl; intro W hnew ho; replace hq := hq.only ho (by omega); replace hr := hnew; replace hb := ho.bel _ _ (by omega) hb) | ((with_reducible refine st_g (w.heap.size + 1) _ (trapH (awake h) ca 0) hq ?_ ?_ ?_); exact rfl; exact rfl; intro W hnew ho; replace hr := hr.only ho (by omega); replace hq := hnew; replace hb := ho.bel _ _ (by omega) hb))
            refine bodyPost_ret (results_cell_tmp_row Tryd.results13 _ _ (w.heap.size + 1) _ _ _ _ rfl hq Tryd.underlying28 rfl size_g) rfl ?_
            exact ⟨by (rw [← hA.out]; rfl), hb⟩

end Go.Proofs.YtelakpogochifaaDoor
namespace Go.Proofs.YtelakpogochifaaDoor
open Go.RowKit
set_option linter.unusedVariables false

variable {ops : Array Oper} {rest : List Oper} {dst : Option Tmp} {ty : TypeId} {pos : String} {after : Array Edge} {a : Act} {w : World} {Q : Exit → Act → World → Prop} {x y : Operand} {gd : Option (Nat × Bool)}
theorem gl_xs (b : Nat) (h : H) (xs : Array Value) (t' : TypeId) (hr : RowAt w b h.cells t') (hxs : h.xs = xs) (hx : a.eval x = .pointer (some ⟨b, 1, none⟩)) (hw : Region.wanted ⟨dst, .load 23 x, ty, pos, after, gd⟩ (yielded ops a.tmps) = true)
    (k : wpList Tryd.prog ops Q rest (a.put dst (.agg xs)) w) : wpList Tryd.prog ops Q (⟨dst, .load 23 x, ty, pos, after, gd⟩ :: rest) a w := by
  subst hxs
  have hq := World.rangeAt_of_block hr 1 h.xs.size
  rw [ex_xs h] at hq
  exact BigFrame.wpList_want hw fun K hK => wp_load_mid 23 x rfl b 1 hx h.xs.toList _ hq Tryd.underlying23 rfl size_xs (hK _ _ k)
theorem and_fc (v : Nat) (hv : v < 4294967296) (h4 : v % 4 = 0) : v &&& 4294967292 = v := by
  apply Nat.eq_of_testBit_eq
  intro i
  rw [Nat.testBit_and]
  by_cases hi : i < 32
  · by_cases h2 : i < 2
    · have h0 : v.testBit i = false := by
        rw [Nat.testBit_eq_decide_div_mod_eq]
        rcases i with _ | _ | i
        · simp; omega
        · simp; omega
        · omega
      simp [h0]
    · have h1 : Nat.testBit 4294967292 i = true := (by decide : ∀ i < 32, 2 ≤ i → Nat.testBit 4294967292 i = true) i hi (by omega)
      simp [h1]
  · have h0 : v.testBit i = false := Nat.testBit_lt_two_pow (Nat.lt_of_lt_of_le hv (Nat.pow_le_pow_right (n := 2) (i := 32) (by decide) (by omega)))
    simp [h0]
theorem mod4_and (v : Nat) (h : v &&& 3 = 0) : v % 4 = 0 := by
  have := Nat.and_two_pow_sub_one_eq_mod v 2
  simp at this
  omega
theorem mayH_iff (h : H) : mayH h = true ↔ h.pc % 4 = 0 ∧ h.x 0 = 0 ∧ mayB h.c = true := by
  unfold mayH
  simp
end Go.Proofs.YtelakpogochifaaDoor
namespace Go.Proofs.YtelakpogochifaaDoor
open Go.RowKit
set_option linter.unusedVariables false

theorem s_alloc {P : Program} {dst : Option Tmp} {ty t : TypeId} {pos : String} {after : Array Edge} {a : Act} {w : World} {Q : Exit → Act → World → Prop} {K : Act → World → Prop} (N : Nat) (hN : w.heap.size = N) (cs : Array Value) (hz : ∀ w, (zeroValue t).run P w = .ok (.agg cs) w)
    (k : ∀ W, RowAt W N cs t → Below N w W → Hid (W.heap.size = N + 1) → K (a.put dst (.pointer (some ⟨N, 0, none⟩))) W) :
    Oper.wp P ⟨dst, .alloc t, ty, pos, after, none⟩ a w K Q := by
  subst hN
  have hrun : (execOp a.eval ⟨dst, .alloc t, ty, pos, after, none⟩).run P w = .ok (.value (.pointer (some ⟨w.heap.size, 0, none⟩))) (w.alloc (.cells cs t)) := by
    unfold execOp
    simp only [Instr.alloc, Sem.run_bind, hz, Result.andThen_ok, newVar, newRow, run_newObj_alloc, Sem.run_pure]
    rfl
  unfold Oper.wp
  rw [hrun, Oper.upon_value]
  exact k _ (RowAt.new w _ cs t rfl) (below_one w _) (hide (by simp))
set_option maxHeartbeats 1000000 in
theorem ne_h (h : H) (w : World) : (binOp .neq 31 (.agg h.cells) (.agg h.cells)).run Tryd.prog w = .ok (.bool false) w := by
  have hx : (Op.equalIn 9999 23 (.agg h.xs) (.agg h.xs)).run Tryd.prog w = .ok true w := eq_xs h 9997 w
  have e1 : h.cells.extract 1 33 = h.xs := by simp [H.cells, H.xs]
  have e2 : h.cells.extract 34 42 = h.c.cells := by simp [H.cells, S8.cells]
  simp [go_sem, e1, e2, hx, H.at0, H.at33, S8.cells]
variable {ops : Array Oper} {rest : List Oper} {dst : Option Tmp} {ty t2 : TypeId} {after : Array Edge} {a : Act} {w : World} {Q : Exit → Act → World → Prop} {x y : Operand} {gd : Option (Nat × Bool)}
theorem gl_h {pos : String} (b : Nat) (h : H) (hr : RowAt w b h.cells 31) (hx : a.eval x = .pointer (some ⟨b, 0, none⟩)) (hw : Region.wanted ⟨dst, .load 31 x, ty, pos, after, gd⟩ (yielded ops a.tmps) = true)
    (k : wpList Tryd.prog ops Q rest (a.put dst (.agg h.cells)) w) : wpList Tryd.prog ops Q (⟨dst, .load 31 x, ty, pos, after, gd⟩ :: rest) a w :=
  BigFrame.wpList_want hw fun K hK => wp_load_row 31 x rfl b hx _ h.cells (0, 0) _ hr Tryd.underlying31 rfl size_hart (hK _ _ k)
theorem no_guard : Tryd.prog.eqGuardType Tryd.prog.depth 31 = false := by kernel_rfl
theorem g_eqh {pos : String} (h : H) (hx : a.eval x = .agg h.cells) (hy : a.eval y = .agg h.cells) (hw : Region.wanted ⟨dst, .binOp .eql 31 x y t2, ty, pos, after, gd⟩ (yielded ops a.tmps) = true)
    (k : wpList Tryd.prog ops Q rest (a.put dst (.bool true)) w) : wpList Tryd.prog ops Q (⟨dst, .binOp .eql 31 x y t2, ty, pos, after, gd⟩ :: rest) a w :=
  BigFrame.wpList_want hw fun K hK => by
    have hrun : (execOp a.eval ⟨dst, .binOp .eql 31 x y t2, ty, pos, after, gd⟩).run Tryd.prog w = .ok (.value (.bool true)) w := by
      unfold execOp
      simp only [Sem.run_bind, hx, hy, run_eqGuard_agg w .eql 31 x y h.cells h.cells no_guard, eq_h h, Result.andThen_ok, Sem.run_pure]
    unfold Oper.wp
    rw [hrun, Oper.upon_value]
    exact hK _ _ k
theorem g_neh {pos : String} (h : H) (hx : a.eval x = .agg h.cells) (hy : a.eval y = .agg h.cells) (hw : Region.wanted ⟨dst, .binOp .neq 31 x y t2, ty, pos, after, gd⟩ (yielded ops a.tmps) = true)
    (k : wpList Tryd.prog ops Q rest (a.put dst (.bool false)) w) : wpList Tryd.prog ops Q (⟨dst, .binOp .neq 31 x y t2, ty, pos, after, gd⟩ :: rest) a w :=
  BigFrame.wpList_want hw fun K hK => by
    have hrun : (execOp a.eval ⟨dst, .binOp .neq 31 x y t2, ty, pos, after, gd⟩).run Tryd.prog w = .ok (.value (.bool false)) w := by
      unfold execOp
      simp only [Sem.run_bind, hx, hy, run_eqGuard_agg w .neq 31 x y h.cells h.cells no_guard, ne_h h, Result.andThen_ok, Sem.run_pure]
    unfold Oper.wp
    rw [hrun, Oper.upon_value]
    exact hK _ _ k
end Go.Proofs.YtelakpogochifaaDoor
namespace Go.Proofs.YtelakpogochifaaDoor
open Go.RowKit Go.Extern.Stop Go.Stop Go.Extern

theorem as_valueOfP (t : Addr) (w : World) : (ReflectliteValue.unpack (.iface 91 (.pointer (some t)))).run Tryd.prog w
    = .ok (.agg #[.pointer (some ⟨6, 91, none⟩), .pointer (some ⟨w.heap.size, 0, none⟩), .int .u64 150]) (w.alloc (.cells #[.pointer (some t)] 91)) := by kernel_rfl
theorem as_typeP (a : Addr) (w : World) : (ReflectliteValue.methodAny (ReflectliteValue.valueError "reflectlite.Value.Type" 0) (fun t _ _ _ => ReflectliteType.toType t) #[.agg #[.pointer (some ⟨6, 91, none⟩), .pointer (some a), .int .u64 150]]).run Tryd.prog w
    = .ok (.iface 152 (.agg #[.pointer (some ⟨6, 91, none⟩)])) w := by kernel_rfl
theorem as_methodKind (h : Value) (w : World) : (Go.method 304 152 (.agg #[h]) "Kind").run Tryd.prog w = .ok (122, h) w := by kernel_rfl
theorem as_kindP (w : World) : ((ReflectliteType.abiMethod fun t => Functor.map (fun a : Nat => Value.int IntKind.u8 (a : Int)) (Rtype.kind t)) #[.pointer (some ⟨6, 91, none⟩)]).run Tryd.prog w = .ok (.int .u8 22) w := by kernel_rfl
theorem as_kindE (w : World) : ((ReflectliteType.abiMethod fun t => Functor.map (fun a : Nat => Value.int IntKind.u8 (a : Int)) (Rtype.kind t)) #[.pointer (some ⟨6, 89, none⟩)]).run Tryd.prog w = .ok (.int .u8 2) w := by kernel_rfl

theorem meth1 {m : Array Value → Sort _} (v : Value) (h1 : ∀ v, m #[v]) (h2 : ∀ y, m y) : ReflectliteValue.method.match_2 m #[v] h1 h2 = h1 v := rfl
theorem set2 {m : Array Value → Sort _} (v x : Value) (h1 : ∀ v x, m #[v, x]) (h2 : ∀ y, m y) : ReflectliteValue.set.match_3 m #[v, x] h1 h2 = h1 v x := rfl
theorem as_partsP (a : Addr) (w : World) : (ReflectliteValue.parts (.agg #[.pointer (some ⟨6, 91, none⟩), .pointer (some a), .int .u64 150])).run Tryd.prog w = .ok (some (91, a, 150)) w := by kernel_rfl
theorem as_isNilP (a p : Addr) (W : World) (ha : W.cell? a = some (.pointer (some p))) :
    (ReflectliteValue.method (ReflectliteValue.valueError "reflectlite.Value.IsNil" 0) ReflectliteValue.isNil #[.agg #[.pointer (some ⟨6, 91, none⟩), .pointer (some a), .int .u64 150]]).run Tryd.prog W = .ok (.bool false) W := by
  delta ReflectliteValue.method
  rw [meth1]
  simp only [Sem.run_bind, as_partsP, Result.andThen]
  simp [ReflectliteValue.isNil, loadVar, isAgg, underlying, Tryd.underlying91, ha, Result.andThen]

theorem as_methodElem (h : Value) (w : World) : (Go.method 304 152 (.agg #[h]) "Elem").run Tryd.prog w = .ok (132, .agg #[h]) w := by kernel_rfl
theorem as_methodImplements (h : Value) (w : World) : (Go.method 304 152 (.agg #[h]) "Implements").run Tryd.prog w = .ok (133, .agg #[h]) w := by kernel_rfl
theorem as_methodAssignableTo (h : Value) (w : World) : (Go.method 304 152 (.agg #[h]) "AssignableTo").run Tryd.prog w = .ok (130, .agg #[h]) w := by kernel_rfl
theorem as_elemP (w : World) : (ReflectliteType.method ReflectliteType.elem #[.agg #[.pointer (some ⟨6, 91, none⟩)]]).run Tryd.prog w = .ok (.iface 152 (.agg #[.pointer (some ⟨6, 89, none⟩)])) w := by kernel_rfl
theorem as_implementsE (w : World) : (ReflectliteType.relation "Implements" ReflectliteType.implements_ #[.agg #[.pointer (some ⟨6, 89, none⟩)], .iface 152 (.agg #[.pointer (some ⟨6, 48, none⟩)])]).run Tryd.prog w = .ok (.bool true) w := by kernel_rfl
theorem as_typeOfE (v : Value) (w : World) : (ReflectliteType.typeOf #[.iface 89 v]).run Tryd.prog w = .ok (.iface 152 (.agg #[.pointer (some ⟨6, 89, none⟩)])) w := by kernel_rfl
theorem as_assignableE (w : World) : (ReflectliteType.relation "AssignableTo" ReflectliteType.assignableTo #[.agg #[.pointer (some ⟨6, 89, none⟩)], .iface 152 (.agg #[.pointer (some ⟨6, 89, none⟩)])]).run Tryd.prog w = .ok (.bool true) w := by kernel_rfl
theorem as_valueOfE (c : Int) (w : World) : (ReflectliteValue.unpack (.iface 89 (.int .i64 c))).run Tryd.prog w
    = .ok (.agg #[.pointer (some ⟨6, 89, none⟩), .pointer (some ⟨w.heap.size, 0, none⟩), .int .u64 130]) (w.alloc (.cells #[.int .i64 c] 89)) := by kernel_rfl

theorem as_elemOfP (w : World) : (Rtype.elem? 91).run Tryd.prog w = .ok (some 89) w := by kernel_rfl
theorem as_mkE (p : Addr) (w : World) : (ReflectliteValue.mk 89 p ReflectliteValue.flagAddr).run Tryd.prog w = .ok (.agg #[.pointer (some ⟨6, 89, none⟩), .pointer (some p), .int .u64 386]) w := by kernel_rfl
theorem as_elemVP (a p : Addr) (W : World) (ha : W.cell? a = some (.pointer (some p))) :
    (ReflectliteValue.method (ReflectliteValue.valueError "reflectlite.Value.Elem" 0) ReflectliteValue.elem #[.agg #[.pointer (some ⟨6, 91, none⟩), .pointer (some a), .int .u64 150]]).run Tryd.prog W
      = .ok (.agg #[.pointer (some ⟨6, 89, none⟩), .pointer (some p), .int .u64 386]) W := by
  delta ReflectliteValue.method
  rw [meth1]
  simp only [Sem.run_bind, as_partsP, Result.andThen]
  simp [ReflectliteValue.elem, loadVar, isAgg, underlying, Tryd.underlying91, ha, Result.andThen, as_elemOfP, as_mkE]
theorem as_partsEa (a : Addr) (w : World) : (ReflectliteValue.parts (.agg #[.pointer (some ⟨6, 89, none⟩), .pointer (some a), .int .u64 386])).run Tryd.prog w = .ok (some (89, a, 386)) w := by kernel_rfl
theorem as_partsE (a : Addr) (w : World) : (ReflectliteValue.parts (.agg #[.pointer (some ⟨6, 89, none⟩), .pointer (some a), .int .u64 130])).run Tryd.prog w = .ok (some (89, a, 130)) w := by kernel_rfl
theorem as_directE (w : World) : (Rtype.directlyAssignable 89 89).run Tryd.prog w = .ok true w := by kernel_rfl
theorem as_setE (ta b : Addr) (c : Int) (old : Value) (W : World) (hb : W.cell? b = some (.int .i64 c)) (ht : W.cell? ta = some old) (hf : W.frozen? ta = false) :
    (ReflectliteValue.set #[.agg #[.pointer (some ⟨6, 89, none⟩), .pointer (some ta), .int .u64 386], .agg #[.pointer (some ⟨6, 89, none⟩), .pointer (some b), .int .u64 130]]).run Tryd.prog W
      = .ok (.tuple #[]) (W.setCell ta (.int .i64 c)) := by
  delta ReflectliteValue.set
  rw [set2]
  simp only [Sem.run_bind, as_partsEa, as_partsE, Result.andThen]
  simp [ReflectliteValue.flagAddr, loadVar, isAgg, underlying, Tryd.underlying89, hb, Result.andThen, as_directE, storeVar, Value.cells, storeCells, Addr.add]
  rw [run_store Tryd.prog W ta _ _ (by rfl)]
  simp [ht, hf]

/-- What the listed variable holds. -/
def HandleAt (w : World) : Prop := w.cell? ⟨5, 0, none⟩ = some (.iface 152 (.agg #[.pointer (some ⟨6, 48, none⟩)]))

set_option maxHeartbeats 4000000 in
theorem as_hit (c : Int) (t : Addr) (old : Value) (w : World) (hg : w.cell? ⟨5, 0, none⟩ = some (.iface 152 (.agg #[.pointer (some ⟨6, 48, none⟩)]))) (ht0 : w.cell? t = some old) (hf0 : w.frozen? t = false) :
    Calls Tryd.prog 41 #[.iface 89 (.int .i64 c), .iface 91 (.pointer (some t))] w fun ev w' => ev = .returned (.bool true) ∧ w' = ((((w.alloc (.cells #[.pointer (some t)] 91)).alloc (.cells #[.pointer (some ⟨6, 91, none⟩), .pointer (some ⟨w.heap.size, 0, none⟩), .int .u64 150] 130)).alloc (.cells #[.pointer (some ⟨6, 91, none⟩), .pointer (some ⟨w.heap.size, 0, none⟩), .int .u64 150] 130)).alloc (.cells #[.int .i64 c] 89)).setCell t (.int .i64 c) := by
  have h6 := @run_callFunc_extern Tryd.prog 74 _ (fun args => ReflectliteValue.unpack (args.getD 0 (.tuple #[]))) Tryd.func74 (by kernel_rfl) (by kernel_rfl) (by kernel_rfl) (by kernel_rfl)
  have h7 := @run_callFunc_extern Tryd.prog 75 _ (ReflectliteValue.methodAny (ReflectliteValue.valueError "reflectlite.Value.Type" 0) (fun t _ _ _ => ReflectliteType.toType t)) Tryd.func75 (by kernel_rfl) (by kernel_rfl) (by kernel_rfl) (by kernel_rfl)
  have h8 := @run_callFunc_extern Tryd.prog 76 _ (ReflectliteValue.method (ReflectliteValue.valueError "reflectlite.Value.IsNil" 0) ReflectliteValue.isNil) Tryd.func76 (by kernel_rfl) (by kernel_rfl) (by kernel_rfl) (by kernel_rfl)
  have h27 := @run_callFunc_extern Tryd.prog 122 _ (ReflectliteType.abiMethod fun t => do pure (.int .u8 (← Rtype.kind t))) Tryd.func122 (by kernel_rfl) (by kernel_rfl) (by kernel_rfl) (by kernel_rfl)
  have h37 := @run_callFunc_extern Tryd.prog 132 _ (ReflectliteType.method ReflectliteType.elem) Tryd.func132 (by kernel_rfl) (by kernel_rfl) (by kernel_rfl) (by kernel_rfl)
  have h38 := @run_callFunc_extern Tryd.prog 133 _ (ReflectliteType.relation "Implements" ReflectliteType.implements_) Tryd.func133 (by kernel_rfl) (by kernel_rfl) (by kernel_rfl) (by kernel_rfl)
  have h10 := @run_callFunc_extern Tryd.prog 92 _ ReflectliteType.typeOf Tryd.func92 (by kernel_rfl) (by kernel_rfl) (by kernel_rfl) (by kernel_rfl)
  have h35 := @run_callFunc_extern Tryd.prog 130 _ (ReflectliteType.relation "AssignableTo" ReflectliteType.assignableTo) Tryd.func130 (by kernel_rfl) (by kernel_rfl) (by kernel_rfl) (by kernel_rfl)
  have h11 := @run_callFunc_extern Tryd.prog 93 _ (ReflectliteValue.method (ReflectliteValue.valueError "reflectlite.Value.Elem" 0) ReflectliteValue.elem) Tryd.func93 (by kernel_rfl) (by kernel_rfl) (by kernel_rfl) (by kernel_rfl)
  have h12 := @run_callFunc_extern Tryd.prog 94 _ ReflectliteValue.set Tryd.func94 (by kernel_rfl) (by kernel_rfl) (by kernel_rfl) (by kernel_rfl)
  have tO := as_typeOfE
  have mA := as_methodAssignableTo
  have a25 := as_assignableE
  have v25 := as_valueOfE
  have f6 := as_valueOfP
  have f7 := as_typeP
  have mK := as_methodKind
  have mE := as_methodElem
  have mI := as_methodImplements
  have k27 := as_kindP
  have k25 := as_kindE
  have e27 := as_elemP
  have i25 := as_implementsE
  have n8 := as_isNilP ⟨w.heap.size, 0, none⟩ t ((w.alloc (.cells #[.pointer (some t)] 91)).alloc (.cells #[.pointer (some ⟨6, 91, none⟩), .pointer (some ⟨w.heap.size, 0, none⟩), .int .u64 150] 130)) (by simp)
  have hlt : 5 < w.heap.size := by
    rcases Nat.lt_or_ge 5 w.heap.size with h | h
    · exact h
    · simp [World.cell?, Array.getElem?_eq_none h] at hg
  have hg2 : ((w.alloc (.cells #[.pointer (some t)] 91)).alloc (.cells #[.pointer (some ⟨6, 91, none⟩), .pointer (some ⟨w.heap.size, 0, none⟩), .int .u64 150] 130)).cell? ⟨5, 0, none⟩ = some (.iface 152 (.agg #[.pointer (some ⟨6, 48, none⟩)])) := by
    rw [World.cell?_alloc_lt _ _ ⟨5, 0, none⟩ (by simp <;> omega), World.cell?_alloc_lt _ _ ⟨5, 0, none⟩ hlt]; exact hg
  have htl : t.block < w.heap.size := by
    rcases Nat.lt_or_ge t.block w.heap.size with h | h
    · exact h
    · simp [World.cell?, Array.getElem?_eq_none h] at ht0
  have el := as_elemVP ⟨w.heap.size, 0, none⟩ t (((w.alloc (.cells #[.pointer (some t)] 91)).alloc (.cells #[.pointer (some ⟨6, 91, none⟩), .pointer (some ⟨w.heap.size, 0, none⟩), .int .u64 150] 130)).alloc (.cells #[.pointer (some ⟨6, 91, none⟩), .pointer (some ⟨w.heap.size, 0, none⟩), .int .u64 150] 130)) (by rw [World.cell?_alloc_lt _ _ ⟨w.heap.size, 0, none⟩ (by simp; omega)]; simp)
  have st := as_setE t ⟨w.heap.size + 1 + 1 + 1, 0, none⟩ c old ((((w.alloc (.cells #[.pointer (some t)] 91)).alloc (.cells #[.pointer (some ⟨6, 91, none⟩), .pointer (some ⟨w.heap.size, 0, none⟩), .int .u64 150] 130)).alloc (.cells #[.pointer (some ⟨6, 91, none⟩), .pointer (some ⟨w.heap.size, 0, none⟩), .int .u64 150] 130)).alloc (.cells #[.int .i64 c] 89))
    (by rw [World.cell?_alloc_at _ _ _ _ (by simp)]; rfl)
    (by rw [World.cell?_alloc_lt _ _ t (by simp; omega), World.cell?_alloc_lt _ _ t (by simp; omega), World.cell?_alloc_lt _ _ t (by simp; omega), World.cell?_alloc_lt _ _ t htl]; exact ht0)
    (by rw [World.frozen?_alloc_old _ _ t (by simp; omega), World.frozen?_alloc_old _ _ t (by simp; omega), World.frozen?_alloc_old _ _ t (by simp; omega), World.frozen?_alloc_old _ _ t (Nat.ne_of_lt htl)]; exact hf0)
  go_enter Tryd.func41, Tryd.ntmps41
  go_wp2
  refine wp_loop_rounds 1 ?_
  rw [rounds_succ]
  go_wp2
  go_ret
  exact ⟨rfl, rfl⟩
end Go.Proofs.YtelakpogochifaaDoor
namespace Go.Proofs.YtelakpogochifaaDoor
open Go.RowKit Go.Extern.Stop Go.Stop Go.Extern
set_option linter.unusedVariables false

set_option maxHeartbeats 400000 in
theorem num_nil (w : World) : Calls Tryd.prog 14 #[.nilIface] w fun e w' => e = .returned (.int .i64 0) ∧ Below w.heap.size w w' := by
  go_enter Tryd.func14, Tryd.ntmps14
  go_wp2
  go_ret
  exact ⟨rfl, (Below.refl _ w).alloc (Nat.le_refl _) _⟩

set_option maxHeartbeats 1000000 in
theorem num_err (c : Int) (w : World) (hg : HandleAt w) : Calls Tryd.prog 14 #[.iface 89 (.int .i64 c)] w fun e w' => e = .returned (.int .i64 c) ∧ Below w.heap.size w w' := by
  have hlt : 5 < w.heap.size := by
    rcases Nat.lt_or_ge 5 w.heap.size with h | h
    · exact h
    · simp [HandleAt, World.cell?, Array.getElem?_eq_none h] at hg
  have hgA : (w.alloc (.cells #[.int .i64 0] 89)).cell? ⟨5, 0, none⟩ = some (.iface 152 (.agg #[.pointer (some ⟨6, 48, none⟩)])) := by
    rw [World.cell?_alloc_lt _ _ ⟨5, 0, none⟩ hlt]; exact hg
  have htA : (w.alloc (.cells #[.int .i64 0] 89)).cell? ⟨w.heap.size, 0, none⟩ = some (.int .i64 0) := by simp
  have hfA : (w.alloc (.cells #[.int .i64 0] 89)).frozen? ⟨w.heap.size, 0, none⟩ = false := by simp
  have HH := hide (as_hit c ⟨w.heap.size, 0, none⟩ (.int .i64 0) _ hgA htA hfA)
  clear hgA htA hfA hg hlt
  go_enter Tryd.func14, Tryd.ntmps14
  go_wp2_with (go_at_call 41; refine HH.out.mono ?_; rintro e w' ⟨rfl, rfl⟩)
  go_ret
  refine ⟨rfl, ?_⟩
  repeat (first | exact Below.refl _ _ | refine Below.alloc ?_ (by simp <;> omega) _)
end Go.Proofs.YtelakpogochifaaDoor
namespace Go.Proofs.YtelakpogochifaaDoor
open Go.RowKit
set_option linter.unusedVariables false

theorem HandleAt.below {w w' : World} (h : HandleAt w) (hb : Below w.heap.size w w') : HandleAt w' := by
  have hlt : 5 < w.heap.size := by
    rcases Nat.lt_or_ge 5 w.heap.size with h' | h'
    · exact h'
    · simp [HandleAt, World.cell?, Array.getElem?_eq_none h'] at h
  exact (hb.cell hlt).trans h
theorem num_of (b : Bool) (w : World) (hg : HandleAt w) : Calls Tryd.prog 14 #[checkV b] w fun e w' => e = .returned (.int .i64 (if b then 0 else 1)) ∧ Below w.heap.size w w' := by
  cases b with
  | true => exact num_nil w
  | false => exact num_err 1 w hg
theorem gl_g {ops : Array Oper} {rest : List Oper} {dst : Option Tmp} {ty t2 : TypeId} {after : Array Edge} {a : Act} {w : World} {Q : Exit → Act → World → Prop} {x y : Operand} {gd : Option (Nat × Bool)} {pos : String} (b : Nat) (h : H) (hr : RowAt w b h.cells 28) (hx : a.eval x = .pointer (some ⟨b, 0, none⟩)) (hw : Region.wanted ⟨dst, .load 28 x, ty, pos, after, gd⟩ (yielded ops a.tmps) = true)
    (k : wpList Tryd.prog ops Q rest (a.put dst (.agg h.cells)) w) : wpList Tryd.prog ops Q (⟨dst, .load 28 x, ty, pos, after, gd⟩ :: rest) a w :=
  BigFrame.wpList_want hw fun K hK => wp_load_row 28 x rfl b hx _ h.cells (0, 0) _ hr Tryd.underlying28 rfl size_g (hK _ _ k)

theorem y_gg {ops : Array Oper} {dst : Option Tmp} {ty : TypeId} {after : Array Edge} {a : Act} {x : Operand} {gd : Option (Nat × Bool)} {pos : String} {S : World → Prop} (b : Nat) (h : H) (hS : ∀ V, S V → RowAt V b h.cells 28) (hx : a.eval x = .pointer (some ⟨b, 0, none⟩)) (hw : Region.wanted ⟨dst, .load 28 x, ty, pos, after, gd⟩ (yielded ops a.tmps) = true) :
    YieldsIf Tryd.prog ops S ⟨dst, .load 28 x, ty, pos, after, gd⟩ (.agg h.cells) a := by
  rcases y_load (ops := ops) (P := Tryd.prog) (t := 28) (dst := dst) (ty := ty) (after := after) (a := a) (x := x) (pos := pos) (S := S) b h.cells _ hS _ Tryd.underlying28 rfl size_g hx with ⟨_, h2⟩ | ⟨h1, _⟩
  · exact .inl ⟨hw, fun V hV => h2 V hV⟩
  · simp [Region.wanted] at h1
theorem y_eqh {ops : Array Oper} {dst : Option Tmp} {ty t2 : TypeId} {after : Array Edge} {a : Act} {x y : Operand} {gd : Option (Nat × Bool)} {pos : String} {S : World → Prop} (h : H) (hx : a.eval x = .agg h.cells) (hy : a.eval y = .agg h.cells) (hw : Region.wanted ⟨dst, .binOp .eql 31 x y t2, ty, pos, after, gd⟩ (yielded ops a.tmps) = true) :
    YieldsIf Tryd.prog ops S ⟨dst, .binOp .eql 31 x y t2, ty, pos, after, gd⟩ (.bool true) a :=
  .inl ⟨hw, fun V hV => by
    unfold execOp
    simp only [Sem.run_bind, hx, hy, run_eqGuard_agg V .eql 31 x y h.cells h.cells no_guard, eq_h h, Result.andThen_ok, Sem.run_pure]⟩

set_option maxHeartbeats 2000000 in
set_option maxRecDepth 20000 in
theorem begins_walk (h : H) (ok : h.Ok) (l pc : Nat) (hl : l < 4294967296) (hp : pc < 4294967296) (w : World) (hA : HartAt w) (hO : OrderAt w) (hH : HandleAt w) :
    Calls Tryd.prog 4 #[.agg h.cells, .int .u32 l, .int .u32 pc] w fun e w' => e = .returned (.bool true) ∧ Below w.heap.size w w' := by
  have HA := hide hA
  have HH := hide hH
  have HO := hide hO
  clear hA hH hO
  have HG := hide (fun h w => give_any h w)
  have HB := hide (fun w hO => begin_any h ok l hl w hO)
  have HRB := hide (fun w => rbegin8 h ok l hl w)
  generalize beginH h l = zb at HB HRB
  obtain ⟨z, b⟩ := zb
  simp only at HB HRB
  have HC := hide (fun w => check_any h ok w)
  have HN := hide (fun w hg => num_of (mayH h) w hg)
  have HRC := hide (fun w => rcheck8 h ok w)
  unfold rcheckN at HRC
  have HR := hide (fun w => reset_any pc hp w)
  have HRR := hide (fun w => rreset8 pc hp w)
  have HS := hide (fun w hw => sure_any w hw)
  generalize (if mayH h = true then (0 : Int) else 1) = cn at HN HRC
  generalize checkV (mayH h) = cv at HN HC
  go_enter Tryd.func4, Tryd.ntmps4
  go_wp2_with (first | ((with_reducible refine bx_g w.heap.size h ?_ ?_ ?_); exact rfl; exact rfl; intro W hg hb hz) | ((with_reducible refine ld_g w.heap.size h hg ?_ ?_); exact rfl) | (go_at_call 9; (with_reducible refine (HG.out _ _).mono ?_); rintro e W ⟨rfl, hbc⟩; replace hg := hg.bl hbc; replace hb := below_bl rfl hb hbc) | (go_at_call 12; (with_reducible refine (HB.out _ (HO.out.below hb)).mono ?_); rintro e W ⟨rfl, hbc⟩; replace hg := hg.bl hbc; obtain ⟨NX, hNX⟩ : ∃ n, W.heap.size = n := ⟨_, rfl⟩; have lNX : w.heap.size + 1 ≤ NX := (by (have := hg.lt; omega)); replace hNX := hide hNX; replace hb := below_bl rfl hb hbc) | ((with_reducible refine al_h NX ?_ ?_); exact hNX.out; intro W hx hb' hz2; replace hg := hg.bl (hNX.out ▸ hb'); replace hb := hb.trans (hb'.mono (by omega))) | ((with_reducible refine st_h NX _ z hx ?_ ?_ ?_); exact rfl; exact rfl; intro W hnew ho; replace hg := hg.only ho (by omega); replace hx := hnew; replace hb := ho.bel _ _ (by omega) hb) | (go_at_call 13; (with_reducible refine (HRB.out _).mono ?_); rintro e W ⟨rfl, hbc⟩; replace hg := hg.bl hbc; replace hx := hx.bl hbc; obtain ⟨NY, hNY⟩ : ∃ n, W.heap.size = n := ⟨_, rfl⟩; have lNY : NX + 1 ≤ NY := (by (have := hx.lt; omega)); replace hNY := hide hNY; replace hb := below_bl rfl hb hbc) | ((with_reducible refine al_g NY ?_ ?_); exact hNY.out; intro W hy hb' hz3; replace hg := hg.bl (hNY.out ▸ hb'); replace hx := hx.bl (hNY.out ▸ hb'); replace hb := hb.trans (hb'.mono (by omega))) | ((with_reducible refine st_g NY _ z hy ?_ ?_ ?_); exact rfl; exact rfl; intro W hnew ho; replace hg := hg.only ho (by omega); replace hx := hx.only ho (by omega); replace hy := hnew; replace hb := ho.bel _ _ (by omega) hb))
  refine wp_region_held_drew (S := (fun V => RowAt V NX z.cells 31 ∧ RowAt V NY z.cells 28 ∧ RowAt V w.heap.size h.cells 28 ∧ Below w.heap.size w V)) (by kernel_rfl) ?_ (fun hHeld => ?_)
  · exact ⟨hx.dr, hy.dr, hg.dr, hb.drew⟩
  generalize W.drew = V at hHeld ⊢
  refine wpAnyH_take (i := 0) (oi := ?oi1) (v := .agg z.cells) ?hi1 (by kernel_rfl) (by kernel_rfl) (by kernel_rfl) ?hQ1 ?hy1 (by assumption) ?rest1
  case hi1 => (simp only [List.getElem?_toArray, List.getElem?_cons_zero]; rfl)
  case hQ1 => exact fun _ _ _ h => h
  case hy1 => exact y_h NX z (fun V hV => hV.1) rfl
  simp only [Act.put, List.setIfInBounds_toArray, List.set_cons_zero, List.set_cons_succ]
  refine wpAnyH_take (i := 1) (oi := ?oi2) (v := .agg z.cells) ?hi2 (by kernel_rfl) (by kernel_rfl) (by kernel_rfl) ?hQ2 ?hy2 (by assumption) ?rest2
  case hi2 => (simp only [List.getElem?_toArray, List.getElem?_cons_zero, List.getElem?_cons_succ]; rfl)
  case hQ2 => exact fun _ _ _ h => h
  case hy2 => exact y_gg NY z (fun V hV => hV.2.1) rfl rfl
  simp only [Act.put, List.setIfInBounds_toArray, List.set_cons_zero, List.set_cons_succ]
  refine wpAnyH_ready (rs := [2]) (by kernel_rfl) (by simp) ?_
  refine AllReadyH.cons (o := ?oi3) ?hi3 (fun K hK => ?_) AllReadyH.nil
  case hi3 => (simp only [List.getElem?_toArray, List.getElem?_cons_zero, List.getElem?_cons_succ]; rfl)
  go_simp
  (with_reducible refine (HG.out _ _).mono ?_)
  rintro e V ⟨rfl, hbc⟩
  have hH2 := hide (And.intro (hHeld.1.bl hbc) (And.intro (hHeld.2.1.bl hbc) (And.intro (hHeld.2.2.1.bl hbc) (below_bl rfl hHeld.2.2.2 hbc))))
  clear hHeld hbc
  go_simp
  refine hK.out _ _ ?_ (fun hHeld => ?_)
  · exact hH2.out
  clear hK K
  clear hH2
  refine wpAnyH_take (i := 3) (oi := ?oi4) (v := .bool true) ?hi4 (by kernel_rfl) (by kernel_rfl) (by kernel_rfl) ?hQ4 ?hy4 (by assumption) ?rest4
  case hi4 => (simp only [List.getElem?_toArray, List.getElem?_cons_zero, List.getElem?_cons_succ]; rfl)
  case hQ4 => exact fun _ _ _ h => h
  case hy4 => exact y_eqh z rfl rfl rfl
  simp only [Act.put, List.setIfInBounds_toArray, List.set_cons_zero, List.set_cons_succ]
  refine wpAnyH_take (i := 4) (oi := ?oi5) (v := .bool true) ?hi5 (by kernel_rfl) (by kernel_rfl) (by kernel_rfl) ?hQ5 ?hy5 (by assumption) ?rest5
  case hi5 => (simp only [List.getElem?_toArray, List.getElem?_cons_zero, List.getElem?_cons_succ]; rfl)
  case hQ5 => exact fun _ _ _ h => h
  case hy5 => exact Or.inl ⟨by rfl, by (intro w hSw; (try dsimp only at hSw); go_simp )⟩
  simp only [Act.put, List.setIfInBounds_toArray, List.set_cons_zero, List.set_cons_succ]
  refine wpAnyH_take (i := 5) (oi := ?oi6) (v := .bool b) ?hi6 (by kernel_rfl) (by kernel_rfl) (by kernel_rfl) ?hQ6 ?hy6 (by assumption) ?rest6
  case hi6 => (simp only [List.getElem?_toArray, List.getElem?_cons_zero, List.getElem?_cons_succ]; rfl)
  case hQ6 => exact fun _ _ _ h => h
  case hy6 => exact Or.inl ⟨by rfl, by (intro w hSw; (try dsimp only at hSw); go_simp )⟩
  simp only [Act.put, List.setIfInBounds_toArray, List.set_cons_zero, List.set_cons_succ]
  refine wpAnyH_take (i := 6) (oi := ?oi7) (v := .bool b) ?hi7 (by kernel_rfl) (by kernel_rfl) (by kernel_rfl) ?hQ7 ?hy7 (by assumption) ?rest7
  case hi7 => (simp only [List.getElem?_toArray, List.getElem?_cons_zero, List.getElem?_cons_succ]; rfl)
  case hQ7 => exact fun _ _ _ h => h
  case hy7 => exact Or.inl ⟨by rfl, by (intro w hSw; (try dsimp only at hSw); go_simp )⟩
  simp only [Act.put, List.setIfInBounds_toArray, List.set_cons_zero, List.set_cons_succ]
  refine wpAnyH_take (i := 7) (oi := ?oi8) (v := .bool true) ?hi8 (by kernel_rfl) (by kernel_rfl) (by kernel_rfl) ?hQ8 ?hy8 (by assumption) ?rest8
  case hi8 => (simp only [List.getElem?_toArray, List.getElem?_cons_zero, List.getElem?_cons_succ]; rfl)
  case hQ8 => exact fun _ _ _ h => h
  case hy8 => exact Or.inl ⟨by rfl, by (intro w hSw; (try dsimp only at hSw); go_simp )⟩
  simp only [Act.put, List.setIfInBounds_toArray, List.set_cons_zero, List.set_cons_succ]
  refine wpAnyH_take (i := 8) (oi := ?oi9) (v := .bool true) ?hi9 (by kernel_rfl) (by kernel_rfl) (by kernel_rfl) ?hQ9 ?hy9 (by assumption) ?rest9
  case hi9 => (simp only [List.getElem?_toArray, List.getElem?_cons_zero, List.getElem?_cons_succ]; rfl)
  case hQ9 => exact fun _ _ _ h => h
  case hy9 => exact Or.inl ⟨by rfl, by (intro w hSw; (try dsimp only at hSw); go_simp )⟩
  simp only [Act.put, List.setIfInBounds_toArray, List.set_cons_zero, List.set_cons_succ]
  refine wpAnyH_take (i := 9) (oi := ?oi10) (v := .bool true) ?hi10 (by kernel_rfl) (by kernel_rfl) (by kernel_rfl) ?hQ10 ?hy10 (by assumption) ?rest10
  case hi10 => (simp only [List.getElem?_toArray, List.getElem?_cons_zero, List.getElem?_cons_succ]; rfl)
  case hQ10 => exact fun _ _ _ h => h
  case hy10 => exact Or.inl ⟨by rfl, by (intro w hSw; (try dsimp only at hSw); go_simp )⟩
  simp only [Act.put, List.setIfInBounds_toArray, List.set_cons_zero, List.set_cons_succ]
  refine wpAnyH_take (i := 10) (oi := ?oi11) (v := .agg h.cells) ?hi11 (by kernel_rfl) (by kernel_rfl) (by kernel_rfl) ?hQ11 ?hy11 (by assumption) ?rest11
  case hi11 => (simp only [List.getElem?_toArray, List.getElem?_cons_zero, List.getElem?_cons_succ]; rfl)
  case hQ11 => exact fun _ _ _ h => h
  case hy11 => exact y_gg w.heap.size h (fun V hV => hV.2.2.1) rfl rfl
  simp only [Act.put, List.setIfInBounds_toArray, List.set_cons_zero, List.set_cons_succ]
  refine wpAnyH_take (i := 14) (oi := ?oi12) (v := .agg h.cells) ?hi12 (by kernel_rfl) (by kernel_rfl) (by kernel_rfl) ?hQ12 ?hy12 (by assumption) ?rest12
  case hi12 => (simp only [List.getElem?_toArray, List.getElem?_cons_zero, List.getElem?_cons_succ]; rfl)
  case hQ12 => exact fun _ _ _ h => h
  case hy12 => exact y_gg w.heap.size h (fun V hV => hV.2.2.1) rfl rfl
  simp only [Act.put, List.setIfInBounds_toArray, List.set_cons_zero, List.set_cons_succ]
  refine wpAnyH_ready (rs := [11]) (by kernel_rfl) (by simp) ?_
  refine AllReadyH.cons (o := ?oi13) ?hi13 (fun K hK => ?_) AllReadyH.nil
  case hi13 => (simp only [List.getElem?_toArray, List.getElem?_cons_zero, List.getElem?_cons_succ]; rfl)
  rw [if_pos (by rfl)]
  go_simp
  (with_reducible refine (HG.out _ _).mono ?_)
  rintro e V ⟨rfl, hbc⟩
  have hH2 := hide (And.intro (hHeld.1.bl hbc) (And.intro (hHeld.2.1.bl hbc) (And.intro (hHeld.2.2.1.bl hbc) (below_bl rfl hHeld.2.2.2 hbc))))
  clear hHeld hbc
  go_simp
  refine hK.out _ _ ?_ (fun hHeld => ?_)
  · exact hH2.out
  clear hK K
  clear hH2
  refine wpAnyH_ready (rs := [12]) (by kernel_rfl) (by simp) ?_
  refine AllReadyH.cons (o := ?oi14) ?hi14 (fun K hK => ?_) AllReadyH.nil
  case hi14 => (simp only [List.getElem?_toArray, List.getElem?_cons_zero, List.getElem?_cons_succ]; rfl)
  rw [if_pos (by rfl)]
  go_simp
  (with_reducible refine (HC.out _).mono ?_)
  rintro e V ⟨rfl, hbc⟩
  have hH2 := hide (And.intro (hHeld.1.bl hbc) (And.intro (hHeld.2.1.bl hbc) (And.intro (hHeld.2.2.1.bl hbc) (below_bl rfl hHeld.2.2.2 hbc))))
  clear hHeld hbc
  go_simp
  refine hK.out _ _ ?_ (fun hHeld => ?_)
  · exact hH2.out
  clear hK K
  clear hH2
  refine wpAnyH_ready (rs := [13]) (by kernel_rfl) (by simp) ?_
  refine AllReadyH.cons (o := ?oi15) ?hi15 (fun K hK => ?_) AllReadyH.nil
  case hi15 => (simp only [List.getElem?_toArray, List.getElem?_cons_zero, List.getElem?_cons_succ]; rfl)
  rw [if_pos (by rfl)]
  go_simp
  (with_reducible refine (HN.out _ (HH.out.below hHeld.2.2.2)).mono ?_)
  rintro e V ⟨rfl, hbc⟩
  have hH2 := hide (And.intro (hHeld.1.bl hbc) (And.intro (hHeld.2.1.bl hbc) (And.intro (hHeld.2.2.1.bl hbc) (below_bl rfl hHeld.2.2.2 hbc))))
  clear hHeld hbc
  go_simp
  refine hK.out _ _ ?_ (fun hHeld => ?_)
  · exact hH2.out
  clear hK K
  clear hH2
  refine wpAnyH_ready (rs := [15]) (by kernel_rfl) (by simp) ?_
  refine AllReadyH.cons (o := ?oi16) ?hi16 (fun K hK => ?_) AllReadyH.nil
  case hi16 => (simp only [List.getElem?_toArray, List.getElem?_cons_zero, List.getElem?_cons_succ]; rfl)
  rw [if_pos (by rfl)]
  go_simp
  (with_reducible refine (HRC.out _).mono ?_)
  rintro e V ⟨rfl, hbc⟩
  have hH2 := hide (And.intro (hHeld.1.bl hbc) (And.intro (hHeld.2.1.bl hbc) (And.intro (hHeld.2.2.1.bl hbc) (below_bl rfl hHeld.2.2.2 hbc))))
  clear hHeld hbc
  go_simp
  refine hK.out _ _ ?_ (fun hHeld => ?_)
  · exact hH2.out
  clear hK K
  clear hH2
  refine wpAnyH_take (i := 16) (oi := ?oi17) (v := .bool true) ?hi17 (by kernel_rfl) (by kernel_rfl) (by kernel_rfl) ?hQ17 ?hy17 (by assumption) ?rest17
  case hi17 => (simp only [List.getElem?_toArray, List.getElem?_cons_zero, List.getElem?_cons_succ]; rfl)
  case hQ17 => exact fun _ _ _ h => h
  case hy17 => exact Or.inl ⟨by rfl, by (intro w hSw; (try dsimp only at hSw); go_simp )⟩
  simp only [Act.put, List.setIfInBounds_toArray, List.set_cons_zero, List.set_cons_succ]
  refine wpAnyH_take (i := 17) (oi := ?oi18) (v := .bool true) ?hi18 (by kernel_rfl) (by kernel_rfl) (by kernel_rfl) ?hQ18 ?hy18 (by assumption) ?rest18
  case hi18 => (simp only [List.getElem?_toArray, List.getElem?_cons_zero, List.getElem?_cons_succ]; rfl)
  case hQ18 => exact fun _ _ _ h => h
  case hy18 => exact Or.inl ⟨by rfl, by (intro w hSw; (try dsimp only at hSw); go_simp )⟩
  simp only [Act.put, List.setIfInBounds_toArray, List.set_cons_zero, List.set_cons_succ]
  refine wpAnyH_take (i := 18) (oi := ?oi19) (v := .bool true) ?hi19 (by kernel_rfl) (by kernel_rfl) (by kernel_rfl) ?hQ19 ?hy19 (by assumption) ?rest19
  case hi19 => (simp only [List.getElem?_toArray, List.getElem?_cons_zero, List.getElem?_cons_succ]; rfl)
  case hQ19 => exact fun _ _ _ h => h
  case hy19 => exact Or.inl ⟨by rfl, by (intro w hSw; (try dsimp only at hSw); go_simp )⟩
  simp only [Act.put, List.setIfInBounds_toArray, List.set_cons_zero, List.set_cons_succ]
  refine wpAnyH_take (i := 19) (oi := ?oi20) (v := .int .u32 (pc : Nat)) ?hi20 (by kernel_rfl) (by kernel_rfl) (by kernel_rfl) ?hQ20 ?hy20 (by assumption) ?rest20
  case hi20 => (simp only [List.getElem?_toArray, List.getElem?_cons_zero, List.getElem?_cons_succ]; rfl)
  case hQ20 => exact fun _ _ _ h => h
  case hy20 => exact Or.inl ⟨by rfl, by (intro w hSw; (try dsimp only at hSw); go_simp )⟩
  simp only [Act.put, List.setIfInBounds_toArray, List.set_cons_zero, List.set_cons_succ]
  refine wpAnyH_take (i := 21) (oi := ?oi21) (v := .int .u32 (pc : Nat)) ?hi21 (by kernel_rfl) (by kernel_rfl) (by kernel_rfl) ?hQ21 ?hy21 (by assumption) ?rest21
  case hi21 => (simp only [List.getElem?_toArray, List.getElem?_cons_zero, List.getElem?_cons_succ]; rfl)
  case hQ21 => exact fun _ _ _ h => h
  case hy21 => exact Or.inl ⟨by rfl, by (intro w hSw; (try dsimp only at hSw); go_simp )⟩
  simp only [Act.put, List.setIfInBounds_toArray, List.set_cons_zero, List.set_cons_succ]
  refine wpAnyH_ready (rs := [20]) (by kernel_rfl) (by simp) ?_
  refine AllReadyH.cons (o := ?oi22) ?hi22 (fun K hK => ?_) AllReadyH.nil
  case hi22 => (simp only [List.getElem?_toArray, List.getElem?_cons_zero, List.getElem?_cons_succ]; rfl)
  rw [if_pos (by rfl)]
  go_simp
  (with_reducible refine (HR.out _).mono ?_)
  rintro e V ⟨rfl, hbc⟩
  have hH2 := hide (And.intro (hHeld.1.bl hbc) (And.intro (hHeld.2.1.bl hbc) (And.intro (hHeld.2.2.1.bl hbc) (below_bl rfl hHeld.2.2.2 hbc))))
  clear hHeld hbc
  go_simp
  refine hK.out _ _ ?_ (fun hHeld => ?_)
  · exact hH2.out
  clear hK K
  clear hH2
  refine wpAnyH_ready (rs := [22]) (by kernel_rfl) (by simp) ?_
  refine AllReadyH.cons (o := ?oi23) ?hi23 (fun K hK => ?_) AllReadyH.nil
  case hi23 => (simp only [List.getElem?_toArray, List.getElem?_cons_zero, List.getElem?_cons_succ]; rfl)
  rw [if_pos (by rfl)]
  go_simp
  (with_reducible refine (HRR.out _).mono ?_)
  rintro e V ⟨rfl, hbc⟩
  have hH2 := hide (And.intro (hHeld.1.bl hbc) (And.intro (hHeld.2.1.bl hbc) (And.intro (hHeld.2.2.1.bl hbc) (below_bl rfl hHeld.2.2.2 hbc))))
  clear hHeld hbc
  go_simp
  refine hK.out _ _ ?_ (fun hHeld => ?_)
  · exact hH2.out
  clear hK K
  clear hH2
  refine wpAnyH_ready (rs := [23]) (by kernel_rfl) (by simp) ?_
  refine AllReadyH.cons (o := ?oi24) ?hi24 (fun K hK => ?_) AllReadyH.nil
  case hi24 => (simp only [List.getElem?_toArray, List.getElem?_cons_zero, List.getElem?_cons_succ]; rfl)
  rw [if_pos (by rfl)]
  go_simp
  (with_reducible refine (HG.out _ _).mono ?_)
  rintro e V ⟨rfl, hbc⟩
  have hH2 := hide (And.intro (hHeld.1.bl hbc) (And.intro (hHeld.2.1.bl hbc) (And.intro (hHeld.2.2.1.bl hbc) (below_bl rfl hHeld.2.2.2 hbc))))
  clear hHeld hbc
  go_simp
  refine hK.out _ _ ?_ (fun hHeld => ?_)
  · exact hH2.out
  clear hK K
  clear hH2
  refine wpAnyH_take (i := 24) (oi := ?oi25) (v := .bool true) ?hi25 (by kernel_rfl) (by kernel_rfl) (by kernel_rfl) ?hQ25 ?hy25 (by assumption) ?rest25
  case hi25 => (simp only [List.getElem?_toArray, List.getElem?_cons_zero, List.getElem?_cons_succ]; rfl)
  case hQ25 => exact fun _ _ _ h => h
  case hy25 => exact y_eqh (resetH pc) rfl rfl rfl
  simp only [Act.put, List.setIfInBounds_toArray, List.set_cons_zero, List.set_cons_succ]
  refine wpAnyH_take (i := 25) (oi := ?oi26) (v := .bool true) ?hi26 (by kernel_rfl) (by kernel_rfl) (by kernel_rfl) ?hQ26 ?hy26 (by assumption) ?rest26
  case hi26 => (simp only [List.getElem?_toArray, List.getElem?_cons_zero, List.getElem?_cons_succ]; rfl)
  case hQ26 => exact fun _ _ _ h => h
  case hy26 => exact Or.inl ⟨by rfl, by (intro w hSw; (try dsimp only at hSw); go_simp )⟩
  simp only [Act.put, List.setIfInBounds_toArray, List.set_cons_zero, List.set_cons_succ]
  refine wpAnyH_take (i := 26) (oi := ?oi27) (v := .bool true) ?hi27 (by kernel_rfl) (by kernel_rfl) (by kernel_rfl) ?hQ27 ?hy27 (by assumption) ?rest27
  case hi27 => (simp only [List.getElem?_toArray, List.getElem?_cons_zero, List.getElem?_cons_succ]; rfl)
  case hQ27 => exact fun _ _ _ h => h
  case hy27 => exact Or.inl ⟨by rfl, by (intro w hSw; (try dsimp only at hSw); go_simp )⟩
  simp only [Act.put, List.setIfInBounds_toArray, List.set_cons_zero, List.set_cons_succ]
  refine wpAnyH_ready (rs := [27]) (by kernel_rfl) (by simp) ?_
  refine AllReadyH.cons (o := ?oi28) ?hi28 (fun K hK => ?_) AllReadyH.nil
  case hi28 => (simp only [List.getElem?_toArray, List.getElem?_cons_zero, List.getElem?_cons_succ]; rfl)
  rw [if_pos (by rfl)]
  go_simp
  (with_reducible refine (HS.out _ (HA.out.below hHeld.2.2.2)).mono ?_)
  rintro e V ⟨rfl, hbc⟩
  have hH2 := hide (And.intro (hHeld.1.bl hbc) (And.intro (hHeld.2.1.bl hbc) (And.intro (hHeld.2.2.1.bl hbc) (below_bl rfl hHeld.2.2.2 hbc))))
  clear hHeld hbc
  go_simp
  refine hK.out _ _ ?_ (fun hHeld => ?_)
  · exact hH2.out
  clear hK K
  clear hH2
  refine wpAnyH_take (i := 28) (oi := ?oi29) (v := .bool true) ?hi29 (by kernel_rfl) (by kernel_rfl) (by kernel_rfl) ?hQ29 ?hy29 (by assumption) ?rest29
  case hi29 => (simp only [List.getElem?_toArray, List.getElem?_cons_zero, List.getElem?_cons_succ]; rfl)
  case hQ29 => exact fun _ _ _ h => h
  case hy29 => exact Or.inl ⟨by rfl, by (intro w hSw; (try dsimp only at hSw); go_simp )⟩
  simp only [Act.put, List.setIfInBounds_toArray, List.set_cons_zero, List.set_cons_succ]
  refine wpAnyH_take (i := 29) (oi := ?oi30) (v := .bool true) ?hi30 (by kernel_rfl) (by kernel_rfl) (by kernel_rfl) ?hQ30 ?hy30 (by assumption) ?rest30
  case hi30 => (simp only [List.getElem?_toArray, List.getElem?_cons_zero, List.getElem?_cons_succ]; rfl)
  case hQ30 => exact fun _ _ _ h => h
  case hy30 => exact Or.inl ⟨by rfl, by (intro w hSw; (try dsimp only at hSw); go_simp )⟩
  simp only [Act.put, List.setIfInBounds_toArray, List.set_cons_zero, List.set_cons_succ]
  refine wpAnyH_done (by kernel_rfl) ?_ _
  replace hb := hHeld.2.2.2
  clear hHeld
  go_wp2
  go_ret
  exact ⟨rfl, hb⟩
end Go.Proofs.YtelakpogochifaaDoor
namespace Go.Proofs.YtelakpogochifaaDoor
open Go.ChangeShapes Go.WideShapes Go.ChangeAt Go.RowKit
set_option linter.unusedVariables false

theorem bounds_w {z : Int} (h : (Lit.int .u32 z).wf = true) : ∃ n : Nat, z = n ∧ n < 4294967296 := by
  have hb := bounds_u32 h
  exact ⟨z.toNat, by omega, by omega⟩
theorem bounds_c {z : Int} (h : (Lit.int .u64 z).wf = true) : ∃ n : Nat, z = n ∧ n < 18446744073709551616 := by
  have hb := bounds_u64 h
  exact ⟨z.toNat, by omega, by omega⟩
theorem one_at {l : List Value} {a : Nat} {v : Value} (h : (l.drop a).take 1 = [v]) : l[a]? = some v := by
  have e : ((l.drop a).take 1)[0]? = some v := by rw [h]; rfl
  simpa using e
theorem in_at {l : List Value} {a n i : Nat} {v : Value} (hi : i < n) (h : (((l.drop a).take n).drop i).take 1 = [v]) : l[a + i]? = some v := by
  have e := one_at h
  rw [List.getElem?_take_of_lt hi, List.getElem?_drop] at e
  exact e
theorem word_at {H : Type} {enc : TypeId × Value → H} {W : World} {base : Nat} {spare : Nat → Bool} {held : Bool} {fuel : Nat} {cs : List Value} {x : DataW H × List MemPlace}
    (h : DataW.trod enc Tryd.prog W base spare held fuel 22 cs = some x) : ∃ n : Nat, cs = [.int .u32 (n : Nat)] ∧ n < 4294967296 := by
  obtain ⟨z, e, _, hw⟩ := DataW.trod_int Tryd.underlying22 h
  obtain ⟨n, rfl, hn⟩ := bounds_w hw
  exact ⟨n, e, hn⟩
theorem cells_g : Tryd.prog.cellsOf 28 = 42 := by kernel_rfl
theorem cells_gx : Tryd.prog.cellsOf 23 = 32 := by kernel_rfl
theorem cells_gc : Tryd.prog.cellsOf 26 = 8 := by kernel_rfl
theorem cells_w : Tryd.prog.cellsOf 22 = 1 := by kernel_rfl
theorem cells_l : Tryd.prog.cellsOf 24 = 1 := by kernel_rfl
theorem cells_b : Tryd.prog.cellsOf 4 = 1 := by kernel_rfl
theorem some_of {α : Type} {l : List α} {i : Nat} (h : i < l.length) : l[i]? = some l[i] := List.getElem?_eq_getElem h

set_option maxRecDepth 100000 in
set_option maxHeartbeats 1000000 in
theorem open_hart {H' : Type} {enc : TypeId × Value → H'} {W : World} {base b0 : Nat} {spare : Nat → Bool} {held : Bool} {r : Reach} {v : Value} {d : DataW H'} {p : List MemPlace}
    (hv : Value.okWide Tryd.prog W r b0 28 v) (h : DataW.Trod enc Tryd.prog W base spare held 28 v d p) :
    ∃ s : H, s.Ok ∧ v = .agg s.cells := by
  have ht := Tryd.underlying28
  simp only [Value.okWide, ht] at hv
  obtain ⟨cs, rfl, hsz, _⟩ := hv
  obtain ⟨fuel, hfu⟩ := h
  obtain ⟨xs, m, _, _, hlen, hxl, hx⟩ := DataW.trod_struct ht hfu
  simp only [Value.cells] at hlen hx
  rw [cells_g] at hsz
  have hxs : xs.length = 4 := hxl
  have f0 : DataW.trod enc Tryd.prog W base spare held m 22 ((cs.toList.drop 0).take (Tryd.prog.cellsOf 22)) = xs[0]? := hx 0 _ rfl
  have f1 : DataW.trod enc Tryd.prog W base spare held m 23 ((cs.toList.drop 1).take (Tryd.prog.cellsOf 23)) = xs[1]? := hx 1 _ rfl
  have f2 : DataW.trod enc Tryd.prog W base spare held m 4 ((cs.toList.drop 33).take (Tryd.prog.cellsOf 4)) = xs[2]? := hx 2 _ rfl
  have f3 : DataW.trod enc Tryd.prog W base spare held m 26 ((cs.toList.drop 34).take (Tryd.prog.cellsOf 26)) = xs[3]? := hx 3 _ rfl
  rw [some_of (by omega)] at f0 f1 f2 f3
  rw [cells_w] at f0
  rw [cells_gx] at f1
  rw [cells_b] at f2
  rw [cells_gc] at f3
  obtain ⟨n0, e0, b0'⟩ := word_at f0
  have c0 := one_at e0
  obtain ⟨ys, m1, _, _, _, hyl, hy⟩ := DataW.trod_array Tryd.underlying23 f1
  have cx : ∀ i, ∃ n : Nat, n < 4294967296 ∧ (i < 32 → cs.toList[1 + i]? = some (.int .u32 (n : Nat))) := by
    intro i
    by_cases hi : i < 32
    · have g := hy i hi
      rw [cells_w, Nat.mul_one, some_of (by omega)] at g
      obtain ⟨n, e, hn⟩ := word_at g
      exact ⟨n, hn, fun _ => in_at hi e⟩
    · exact ⟨0, by decide, fun h => absurd h hi⟩
  obtain ⟨bw, e2, _⟩ := DataW.trod_bool Tryd.underlying4 f2
  have c33 := one_at e2
  obtain ⟨zs, m3, _, _, _, hzl, hz⟩ := DataW.trod_struct Tryd.underlying26 f3
  have hzs : zs.length = 8 := hzl
  have g0 : DataW.trod enc Tryd.prog W base spare held m3 22 ((((cs.toList.drop 34).take 8).drop 0).take (Tryd.prog.cellsOf 22)) = zs[0]? := hz 0 _ rfl
  have g1 : DataW.trod enc Tryd.prog W base spare held m3 22 ((((cs.toList.drop 34).take 8).drop 1).take (Tryd.prog.cellsOf 22)) = zs[1]? := hz 1 _ rfl
  have g2 : DataW.trod enc Tryd.prog W base spare held m3 22 ((((cs.toList.drop 34).take 8).drop 2).take (Tryd.prog.cellsOf 22)) = zs[2]? := hz 2 _ rfl
  have g3 : DataW.trod enc Tryd.prog W base spare held m3 22 ((((cs.toList.drop 34).take 8).drop 3).take (Tryd.prog.cellsOf 22)) = zs[3]? := hz 3 _ rfl
  have g4 : DataW.trod enc Tryd.prog W base spare held m3 22 ((((cs.toList.drop 34).take 8).drop 4).take (Tryd.prog.cellsOf 22)) = zs[4]? := hz 4 _ rfl
  have g5 : DataW.trod enc Tryd.prog W base spare held m3 22 ((((cs.toList.drop 34).take 8).drop 5).take (Tryd.prog.cellsOf 22)) = zs[5]? := hz 5 _ rfl
  have g6 : DataW.trod enc Tryd.prog W base spare held m3 22 ((((cs.toList.drop 34).take 8).drop 6).take (Tryd.prog.cellsOf 22)) = zs[6]? := hz 6 _ rfl
  have g7 : DataW.trod enc Tryd.prog W base spare held m3 24 ((((cs.toList.drop 34).take 8).drop 7).take (Tryd.prog.cellsOf 24)) = zs[7]? := hz 7 _ rfl
  rw [some_of (by omega)] at g0 g1 g2 g3 g4 g5 g6 g7
  rw [cells_w] at g0 g1 g2 g3 g4 g5 g6
  rw [cells_l] at g7
  obtain ⟨s0, k0, l0⟩ := word_at g0
  obtain ⟨s1, k1, l1⟩ := word_at g1
  obtain ⟨s2, k2, l2⟩ := word_at g2
  obtain ⟨s3, k3, l3⟩ := word_at g3
  obtain ⟨s4, k4, l4⟩ := word_at g4
  obtain ⟨s5, k5, l5⟩ := word_at g5
  obtain ⟨s6, k6, l6⟩ := word_at g6
  obtain ⟨z7, k7, _, w7⟩ := DataW.trod_int Tryd.underlying24 g7
  obtain ⟨s7, rfl, l7⟩ := bounds_c w7
  have q0 := in_at (by decide) k0
  have q1 := in_at (by decide) k1
  have q2 := in_at (by decide) k2
  have q3 := in_at (by decide) k3
  have q4 := in_at (by decide) k4
  have q5 := in_at (by decide) k5
  have q6 := in_at (by decide) k6
  have q7 := in_at (by decide) k7
  refine ⟨⟨n0, fun i => Classical.choose (cx i), bw, ⟨s0, s1, s2, s3, s4, s5, s6, s7⟩⟩, ⟨b0', fun i => (Classical.choose_spec (cx i)).1, ⟨l0, l1, l2, l3, l4, l5, l6, l7⟩⟩, ?_⟩
  congr 1
  apply Array.ext_getElem?
  intro j
  rw [← Array.getElem?_toList]
  by_cases j0 : j = 0
  · subst j0; exact c0
  by_cases j1 : j < 33
  · obtain ⟨i, rfl⟩ : ∃ i, j = 1 + i := ⟨j - 1, by omega⟩
    rw [(Classical.choose_spec (cx i)).2 (by omega), H.cell_x _ i (by omega)]
  by_cases j2 : j = 33
  · subst j2; exact c33
  by_cases j3 : j < 42
  · obtain ⟨i, rfl⟩ : ∃ i, j = 34 + i := ⟨j - 34, by omega⟩
    match i, j3 with
    | 0, _ => exact q0
    | 1, _ => exact q1
    | 2, _ => exact q2
    | 3, _ => exact q3
    | 4, _ => exact q4
    | 5, _ => exact q5
    | 6, _ => exact q6
    | 7, _ => exact q7
    | k + 8, h => exact absurd h (by omega)
  · rw [List.getElem?_eq_none (by simp; omega), Array.getElem?_eq_none (by show 42 ≤ j; omega)]
end Go.Proofs.YtelakpogochifaaDoor
namespace Go.Proofs.YtelakpogochifaaDoor
open Go.ChangeShapes Go.WideShapes Go.ChangeAt Go.RowKit

theorem tab_elem {P : Program} {W : World} {t e : TypeId} {n fuel : Nat} {cs : Array Value} {ds : List (DataW Unit)} {p : List MemPlace}
    (ht : P.underlying t = some (.array n e)) (hce : P.cellsOf e = 1) (hC : P.cellsOf t = n)
    (hd : DataW.trod (fun _ => ()) P W 0 (fun _ => true) false fuel t cs.toList = some (.agg ds, p)) (j : Nat) (hj : j < n) :
    ∃ m v q d, cs[j]? = some v ∧ ds[j]? = some d ∧ DataW.trod (fun _ => ()) P W 0 (fun _ => true) false m e [v] = some (d, q) := by
  obtain ⟨xs, m, _, hx, hlen, hn, hel⟩ := DataW.trod_array ht hd
  rw [hC] at hlen
  simp only [Prod.mk.injEq] at hx
  have h1 := hel j hj
  have hxj : j < xs.length := by omega
  rw [hce, List.getElem?_eq_getElem hxj] at h1
  have hjl : j < cs.toList.length := by omega
  have e3 : (cs.toList.drop (j * 1)).take 1 = [cs.toList[j]] := by rw [Nat.mul_one, List.drop_eq_getElem_cons hjl]; simp
  rw [e3] at h1
  refine ⟨m, cs.toList[j], xs[j].2, xs[j].1, ?_, ?_, h1⟩
  · rw [← Array.getElem?_toList, List.getElem?_eq_getElem hjl]
  · have e7 : ds = xs.map (·.1) := by have := hx.1; injection this
    rw [e7, List.getElem?_map, List.getElem?_eq_getElem hxj]; rfl

theorem tab_int {P : Program} {W : World} {name : String} {g : Nat} {t e : TypeId} {n fuel : Nat} {k : IntKind} {cs : Array Value} {L : List Nat} {p : List MemPlace}
    (hg : P.globalNamed name = some g) (hv : W.var? P name = some cs)
    (ht : P.underlying t = some (.array n e)) (he : P.underlying e = some (.int k)) (hce : P.cellsOf e = 1) (hC : P.cellsOf t = n) (hL : L.length = n)
    (hd : DataW.trod (fun _ => ()) P W 0 (fun _ => true) false fuel t cs.toList = some (.agg (L.map fun x : Nat => .lit (.int k (x : Int))), p)) (j : Nat) (hj : j < n) :
    W.cell? ⟨g, j, none⟩ = some (.int k (L.getD j 0 : Nat)) := by
  obtain ⟨m, v, q, d, h1, h2, h3⟩ := tab_elem ht hce hC hd j hj
  have hjL : j < L.length := by omega
  rw [List.getElem?_map, List.getElem?_eq_getElem hjL] at h2
  obtain ⟨z, e1, e2, _⟩ := DataW.trod_int he h3
  simp only [Option.map_some, Option.some.injEq] at h2
  simp only [Prod.mk.injEq] at e2
  rw [← h2] at e2
  have e5 := e2.1
  simp only [DataW.lit.injEq, Lit.int.injEq, true_and] at e5
  rw [World.var?_cell hg hv j, h1]
  simp only [List.cons.injEq, and_true] at e1
  rw [e1, ← e5, List.getD_eq_getElem?_getD, List.getElem?_eq_getElem hjL]
  rfl

theorem tab_str {P : Program} {W : World} {name : String} {g : Nat} {t e : TypeId} {n fuel : Nat} {cs : Array Value} {L : List (List UInt8)} {p : List MemPlace}
    (hg : P.globalNamed name = some g) (hv : W.var? P name = some cs)
    (ht : P.underlying t = some (.array n e)) (he : P.underlying e = some .string) (hce : P.cellsOf e = 1) (hC : P.cellsOf t = n) (hL : L.length = n)
    (hd : DataW.trod (fun _ => ()) P W 0 (fun _ => true) false fuel t cs.toList = some (.agg (L.map fun x => .lit (.string x)), p)) (j : Nat) (hj : j < n) :
    W.cell? ⟨g, j, none⟩ = some (.string ⟨(L.getD j []).toArray⟩) := by
  obtain ⟨m, v, q, d, h1, h2, h3⟩ := tab_elem ht hce hC hd j hj
  have hjL : j < L.length := by omega
  rw [List.getElem?_map, List.getElem?_eq_getElem hjL] at h2
  obtain ⟨z, e1, e2, _⟩ := DataW.trod_string he h3
  simp only [Option.map_some, Option.some.injEq] at h2
  simp only [Prod.mk.injEq] at e2
  rw [← h2] at e2
  have e5 := e2.1
  simp only [DataW.lit.injEq, Lit.string.injEq] at e5
  rw [World.var?_cell hg hv j, h1]
  simp only [List.cons.injEq, and_true] at e1
  rw [e1, List.getD_eq_getElem?_getD, List.getElem?_eq_getElem hjL]
  simp only [Option.getD_some]
  rw [e5]
end Go.Proofs.YtelakpogochifaaDoor
namespace Go.Proofs.YtelakpogochifaaDoor
open Go.ChangeShapes Go.WideShapes Go.ChangeAt Go.RowKit
set_option linter.unusedVariables false

theorem own : ownKnob Tryd.prog.godebug = none := by kernel_rfl
theorem laidOut : laidOutB Tryd.prog = true := by kernel_rfl
theorem gKinds : Tryd.prog.globalNamed "pinnace/inst.kinds" = some 0 := by kernel_rfl
theorem gWords : Tryd.prog.globalNamed "pinnace/inst.words" = some 1 := by kernel_rfl
theorem gOns : Tryd.prog.globalNamed "pinnace/hart.onNumbers" = some 3 := by kernel_rfl
theorem gWids : Tryd.prog.globalNamed "pinnace/hart.widths" = some 2 := by kernel_rfl
theorem tKinds : (Tryd.prog.globals[0]?).map (·.type) = some 98 := by kernel_rfl
theorem tWords : (Tryd.prog.globals[1]?).map (·.type) = some 99 := by kernel_rfl
theorem tOns : (Tryd.prog.globals[3]?).map (·.type) = some 111 := by kernel_rfl
theorem tWids : (Tryd.prog.globals[2]?).map (·.type) = some 103 := by kernel_rfl
theorem dKinds : (Rows.laid_pinnace_inst_kinds : DataW Unit) = .agg (kindL.map fun x : Nat => .lit (.int .u8 (x : Int))) := rfl
theorem dWords : (Rows.laid_pinnace_inst_words : DataW Unit) = .agg (wordL.map fun x : Nat => .lit (.int .u32 (x : Int))) := rfl
theorem dOns : (Rows.laid_pinnace_hart_onNumbers : DataW Unit) = .agg (onL.map fun x : Nat => .lit (.int .i64 (x : Int))) := rfl
theorem dWids : (Rows.laid_pinnace_hart_widths : DataW Unit) = .agg (widL.map fun x : Nat => .lit (.int .i64 (x : Int))) := rfl
theorem widN_at (j : Nat) (hj : j < 5) : widL.getD j 0 = widN j := by
  rcases j with _ | _ | _ | _ | _ | j
  all_goals first | rfl | omega

abbrev laid4 : List (String × DataW Unit) := [("pinnace/inst.kinds", Rows.laid_pinnace_inst_kinds), ("pinnace/inst.words", Rows.laid_pinnace_inst_words), ("pinnace/hart.onNumbers", Rows.laid_pinnace_hart_onNumbers), ("pinnace/hart.widths", Rows.laid_pinnace_hart_widths)]

theorem hart_of_laid {W : World} (h0 : laidMetH Tryd.prog laid4 W) : HartAt W := by
  have h := h0
  rw [MakeChecks.laidMetH_plain _ _ _ (by kernel_rfl)] at h
  obtain ⟨ps, ⟨g0, t0, cs0, f0, p0, q0, hg0, ht0, hv0, hd0, ⟨g1, t1, cs1, f1, p1, q1, hg1, ht1, hv1, hd1, ⟨g2, t2, cs2, f2, p2, q2, hg2, ht2, hv2, hd2, ⟨g3, t3, cs3, f3, p3, q3, hg3, ht3, hv3, hd3, _, _⟩, _⟩, _⟩, _⟩, _, _⟩ := h
  obtain rfl := Option.some.inj (gKinds.symm.trans hg0)
  obtain rfl := Option.some.inj (gWords.symm.trans hg1)
  obtain rfl := Option.some.inj (gOns.symm.trans hg2)
  obtain rfl := Option.some.inj (gWids.symm.trans hg3)
  obtain rfl := Option.some.inj (tKinds.symm.trans ht0)
  obtain rfl := Option.some.inj (tWords.symm.trans ht1)
  obtain rfl := Option.some.inj (tOns.symm.trans ht2)
  obtain rfl := Option.some.inj (tWids.symm.trans ht3)
  rw [dKinds] at hd0
  rw [dWords] at hd1
  rw [dOns] at hd2
  rw [dWids] at hd3
  refine ⟨tab_int hg0 hv0 Tryd.underlying98 Tryd.underlying5 (by kernel_rfl) (by kernel_rfl) rfl hd0, tab_int hg1 hv1 Tryd.underlying99 Tryd.underlying22 (by kernel_rfl) (by kernel_rfl) rfl hd1, tab_int hg2 hv2 Tryd.underlying111 Tryd.underlying3 (by kernel_rfl) (by kernel_rfl) rfl hd2, fun j hj => ?_⟩
  have := tab_int hg3 hv3 Tryd.underlying103 Tryd.underlying3 (by kernel_rfl) (by kernel_rfl) rfl hd3 j hj
  rw [widN_at j hj] at this
  exact this

theorem door4 (os : Os) (args : Array Value) : laidMetH Tryd.prog laid4 ((World.doorLaid Tryd.prog 600 os).forCall (fun _ _ => 0) ⟨#[], args, []⟩).memory :=
  laidMetH_of_parts3 (fuel := 8) (laidMet_of_run' 8 (by kernel_rfl) (by kernel_rfl)) (by kernel_rfl) (by kernel_rfl)
end Go.Proofs.YtelakpogochifaaDoor
namespace Go.Proofs.YtelakpogochifaaDoor
open Go.ChangeShapes Go.WideShapes Go.ChangeAt Go.RowKit
set_option linter.unusedVariables false

def orderL : List Nat := [11, 3, 7]
theorem gOrder : Tryd.prog.globalNamed "pinnace/csr.order" = some 4 := by kernel_rfl
theorem tOrder : (Tryd.prog.globals[4]?).map (·.type) = some 126 := by kernel_rfl
theorem dOrder : (Rows.laid_pinnace_csr_order : DataW Unit) = .agg (orderL.map fun x : Nat => .lit (.int .u32 (x : Int))) := rfl

abbrev laid5 : List (String × DataW Unit) := [("pinnace/csr.order", Rows.laid_pinnace_csr_order), ("pinnace/inst.kinds", Rows.laid_pinnace_inst_kinds), ("pinnace/inst.words", Rows.laid_pinnace_inst_words), ("pinnace/hart.onNumbers", Rows.laid_pinnace_hart_onNumbers), ("pinnace/hart.widths", Rows.laid_pinnace_hart_widths)]

theorem hart5_of_laid {W : World} (h0 : laidMetH Tryd.prog laid5 W) : HartAt W ∧ OrderAt W := by
  have h := h0
  rw [MakeChecks.laidMetH_plain _ _ _ (by kernel_rfl)] at h
  obtain ⟨ps, ⟨gO, tO, csO, fO, pO, qO, hgo, hto, hvo, hdo, ⟨g0, t0, cs0, f0, p0, q0, hg0, ht0, hv0, hd0, ⟨g1, t1, cs1, f1, p1, q1, hg1, ht1, hv1, hd1, ⟨g2, t2, cs2, f2, p2, q2, hg2, ht2, hv2, hd2, ⟨g3, t3, cs3, f3, p3, q3, hg3, ht3, hv3, hd3, _, _⟩, _⟩, _⟩, _⟩, _⟩, _, _⟩ := h
  obtain rfl := Option.some.inj (gOrder.symm.trans hgo)
  obtain rfl := Option.some.inj (tOrder.symm.trans hto)
  obtain rfl := Option.some.inj (gKinds.symm.trans hg0)
  obtain rfl := Option.some.inj (gWords.symm.trans hg1)
  obtain rfl := Option.some.inj (gOns.symm.trans hg2)
  obtain rfl := Option.some.inj (gWids.symm.trans hg3)
  obtain rfl := Option.some.inj (tKinds.symm.trans ht0)
  obtain rfl := Option.some.inj (tWords.symm.trans ht1)
  obtain rfl := Option.some.inj (tOns.symm.trans ht2)
  obtain rfl := Option.some.inj (tWids.symm.trans ht3)
  rw [dOrder] at hdo
  rw [dKinds] at hd0
  rw [dWords] at hd1
  rw [dOns] at hd2
  rw [dWids] at hd3
  have hto := tab_int hgo hvo Tryd.underlying126 Tryd.underlying22 (by kernel_rfl) (by kernel_rfl) rfl hdo
  refine ⟨⟨tab_int hg0 hv0 Tryd.underlying98 Tryd.underlying5 (by kernel_rfl) (by kernel_rfl) rfl hd0, tab_int hg1 hv1 Tryd.underlying99 Tryd.underlying22 (by kernel_rfl) (by kernel_rfl) rfl hd1, tab_int hg2 hv2 Tryd.underlying111 Tryd.underlying3 (by kernel_rfl) (by kernel_rfl) rfl hd2, fun j hj => ?_⟩, hto 0 (by decide), hto 1 (by decide), hto 2 (by decide)⟩
  have := tab_int hg3 hv3 Tryd.underlying103 Tryd.underlying3 (by kernel_rfl) (by kernel_rfl) rfl hd3 j hj
  rw [widN_at j hj] at this
  exact this

theorem door5 (os : Os) (args : Array Value) : laidMetH Tryd.prog laid5 ((World.doorLaid Tryd.prog 600 os).forCall (fun _ _ => 0) ⟨#[], args, []⟩).memory :=
  laidMetH_of_parts3 (fuel := 8) (laidMet_of_run' 8 (by kernel_rfl) (by kernel_rfl)) (by kernel_rfl) (by kernel_rfl)
end Go.Proofs.YtelakpogochifaaDoor
namespace Go.Proofs.YtelakpogochifaaDoor
open Go.ChangeShapes Go.WideShapes Go.ChangeAt Go.RowKit
set_option linter.unusedVariables false

theorem laid_et : Tryd.prog.globalNamed "errors.errorType" = some 5 := by kernel_rfl
theorem laid_rt : (Tryd.prog.cutTypes.find? (·.1 == "internal/reflectlite.rtype")).map (·.2) = some 152 := by kernel_rfl
theorem laid_oneRow : ((List.range 204).filter fun t => Tryd.prog.rowNamed t [101, 114, 114, 111, 114]) = [48] := by kernel_rfl
theorem laid_size : Tryd.prog.types.size = 204 := by kernel_rfl

abbrev laid6 : List (String × DataW Unit) := [("errors.errorType", Rows.laid_errors_errorType), ("pinnace/csr.order", Rows.laid_pinnace_csr_order), ("pinnace/inst.kinds", Rows.laid_pinnace_inst_kinds), ("pinnace/inst.words", Rows.laid_pinnace_inst_words), ("pinnace/hart.onNumbers", Rows.laid_pinnace_hart_onNumbers), ("pinnace/hart.widths", Rows.laid_pinnace_hart_widths)]
theorem met_of_laid6 {W : World} (h : laidMetH Tryd.prog laid6 W) : laidMet Tryd.prog laid5 W ∧ handlesMet Tryd.prog [("errors.errorType", Rows.laid_errors_errorType)] W := h
theorem hart6_of_laid {W : World} (h : laidMetH Tryd.prog laid6 W) : HartAt W ∧ OrderAt W :=
  hart5_of_laid (by rw [MakeChecks.laidMetH_plain _ _ _ (by kernel_rfl)]; exact (met_of_laid6 h).1)
theorem handle_of_laid6 {W : World} (h : laidMetH Tryd.prog laid6 W) : HandleAt W := by
  obtain ⟨name, u, ty, e1, e2, e3, e4, e5⟩ := (met_of_laid6 h).2 _ (List.mem_singleton.2 rfl)
  have en : name = [101, 114, 114, 111, 114] := (Option.some.inj e1).symm
  subst en
  obtain rfl := Option.some.inj (laid_rt.symm.trans e2)
  have hm : ty ∈ (List.range 204).filter fun t => Tryd.prog.rowNamed t [101, 114, 114, 111, 114] := List.mem_filter.2 ⟨List.mem_range.2 (by rw [← laid_size]; exact e3), e4⟩
  rw [laid_oneRow] at hm
  obtain rfl := List.mem_singleton.1 hm
  have hh : typeHandle Tryd.prog 48 = .pointer (some ⟨6, 48, none⟩) := by kernel_rfl
  rw [hh] at e5
  simpa [HandleAt] using World.var?_cell laid_et e5 0

theorem door6 (os : Os) (args : Array Value) : laidMetH Tryd.prog laid6 ((World.doorLaid Tryd.prog 600 os).forCall (fun _ _ => 0) ⟨#[], args, []⟩).memory :=
  laidMetH_of_parts (laidMet_of_run' 8 (by kernel_rfl) (by kernel_rfl)) (by kernel_rfl)
end Go.Proofs.YtelakpogochifaaDoor
namespace Go.Proofs.YtelakpogochifaaDoor
open Go.ChangeShapes Go.WideShapes Go.ChangeAt Go.RowKit
set_option linter.unusedVariables false

theorem begins_at (h : H) (ok : h.Ok) (z0 z1 : Int) (h0 : (Lit.int .u32 z0).wf = true) (h1 : (Lit.int .u32 z1).wf = true) (w : World) (hA : HartAt w ∧ OrderAt w) (hH : HandleAt w) :
    Calls Tryd.prog 4 #[.agg h.cells, .int .u32 z0, .int .u32 z1] w fun e w' => e = .returned (.bool true) ∧ Below w.heap.size w w' := by
  obtain ⟨n0, rfl, m0⟩ := bounds_w h0
  obtain ⟨n1, rfl, m1⟩ := bounds_w h1
  exact begins_walk h ok n0 n1 m0 m1 w hA.1 hA.2 hH

set_option maxRecDepth 100000 in
theorem hartBegins_lifted (os : Os) (started : os.Started) (H : Type) (enc : TypeId × Value → H) :
    ReturnsInHanded {} Tryd.checked os 4 .any (fun w args => (Rows.hartBeginsSpec.pre enc Tryd.prog Tryd.f4 [] false w args ∧ laidMetH Tryd.prog laid6 w) ∧ sizedMet enc Tryd.prog Tryd.f4 (OpenSpec.ofChange Rows.hartBeginsSpec) false w args)
      (Rows.hartBeginsSpec.post enc Tryd.prog Tryd.f4 false true false false) := by
  refine returnsInHanded_of_change_and (C := Tryd.checked) (X := fun w _ => laidMetH Tryd.prog laid6 w) (fun _ _ _ hh h => h.of_heap hh) own started (by kernel_rfl) Tryd.func4
    (ChangeSpec.witness_shaped (enc := enc) (C := Tryd.checked) (os := os) (X := fun w _ => laidMetH Tryd.prog laid6 w) false (World.doorLaid Tryd.prog 600 os) #[.agg #[.int .u32 0, .int .u32 0, .int .u32 0, .int .u32 0, .int .u32 0, .int .u32 0, .int .u32 0, .int .u32 0, .int .u32 0, .int .u32 0, .int .u32 0, .int .u32 0, .int .u32 0, .int .u32 0, .int .u32 0, .int .u32 0, .int .u32 0, .int .u32 0, .int .u32 0, .int .u32 0, .int .u32 0, .int .u32 0, .int .u32 0, .int .u32 0, .int .u32 0, .int .u32 0, .int .u32 0, .int .u32 0, .int .u32 0, .int .u32 0, .int .u32 0, .int .u32 0, .int .u32 0, .bool false, .int .u32 0, .int .u32 0, .int .u32 0, .int .u32 0, .int .u32 0, .int .u32 0, .int .u32 0, .int .u64 0], .int .u32 0, .int .u32 0] 8 rfl (World.shaped_of_RefB (by kernel_rfl) (by kernel_rfl)) (by kernel_rfl) (by kernel_rfl) (by kernel_rfl) (door6 os _)) ?_
  intro W base args ds gs before hval0 hW _ _ hL _
  have hval : ∀ (j : Nat) t v, Tryd.f4.params[j]? = some t → args[j]? = some v → Value.okWide Tryd.prog W .any base t v := hval0
  have hW' := hW
  obtain ⟨p, q, hA0, hV, rfl, hfz, hnd⟩ := hW
  have hA : DataW.TrodAll enc Tryd.prog W 0 (fun _ => true) true Tryd.f4.params.toList args.toList ds p := hA0
  rw [Tryd.params4] at hA hval
  obtain ⟨v0, vs0, d0, ds0, p0, q0, hargs, rfl, rfl, h0, r0⟩ := trodAll_cons hA
  obtain ⟨v1, vs1, d1, ds1, p1, q1, rfl, rfl, rfl, h1, r1⟩ := trodAll_cons r0
  obtain ⟨v2, vs2, d2, ds2, p2, q2, rfl, rfl, rfl, h2, r2⟩ := trodAll_cons r1
  obtain ⟨rfl, rfl, rfl⟩ := trodAll_nil r2
  obtain rfl : args = #[v0, v1, v2] := by cases args; simp_all
  obtain ⟨rfl, rfl⟩ := trodVars_none hV
  have lt0 : ∀ x ∈ p0, x.block < W.heap.size := by obtain ⟨m, hm⟩ := h0; exact DataW.trod_lt m _ _ _ hm
  obtain ⟨i0, hi0, rfl⟩ := open_hart (hval 0 28 v0 rfl rfl) h0
  obtain ⟨a1, rfl, rfl, rfl, w1⟩ := open_int Tryd.underlying22 (hval 1 22 v1 rfl rfl) h1
  obtain ⟨a2, rfl, rfl, rfl, w2⟩ := open_int Tryd.underlying22 (hval 2 22 v2 rfl rfl) h2
  clear hA0 hval0
  refine (begins_at i0 hi0 a1 a2 w1 w2 W (hart6_of_laid hL) (handle_of_laid6 hL)).mono fun e W' ⟨he, bel⟩ => ?_
  subst he
  exact ⟨_, rfl, _, _, _, [], _, [], hW', trodAll_mk1 (shut_bool Tryd.underlying4 _), (trodAll_cons_mk (Below.trod laidOut (by kernel_rfl) (of_decide_eq_true (by kernel_rfl)) h0 bel lt0) (trodAll_cons_mk (shut_int Tryd.underlying22 w1) (trodAll_cons_mk (shut_int Tryd.underlying22 w2) trodAll_mk0))), rfl, bel.frame _, fun h => by cases h⟩

theorem hartBegins_over : Rows.HartBeginsSaid :=
  OpenClaim.holds_of_wide 4 Tryd.f4 rfl rfl rfl rfl rfl rfl rfl ⟨rfl, rfl, rfl, rfl, rfl⟩ rfl rfl rfl rfl rfl (by kernel_rfl) Tryd.func4 (by kernel_rfl)
    (of_decide_eq_true (by kernel_rfl)) (by unfold Func.isWrapper; first | (rw [if_pos (by decide +kernel)]; kernel_rfl) | (rw [if_neg (by decide +kernel)]; exact ⟨rfl, rfl⟩))
    (fun os started H enc _ => hartBegins_lifted os started H enc)

theorem hartBegins_proved : Rows.HartBeginsCardSaid :=
  Claim7.holds_tied_plain_at .later [] [.handle, .data, .data, .data, .data, .data] true (true, "9b8d3b12b0cf3918b4e2dc8ef2e603fbca73158cf774431451e5baba7a0cac7b") true
    hartBegins_over (fun _ h => by cases h) (by kernel_rfl) (fun _ h => by cases h) hartBegins_row_tie rfl ⟨rfl, rfl⟩ (by kernel_rfl) rfl
    (fun f fn hf hfn => by
      obtain rfl : f = 4 := Option.some.inj ((show Tryd.prog.funcNamed Rows.hartBeginsRow.func = some 4 by kernel_rfl).symm.trans hf) |>.symm
      obtain rfl : fn = Tryd.f4 := (Option.some.inj (Tryd.func4.symm.trans hfn)).symm
      exact ⟨by kernel_rfl, fun j t ht => by
        rw [Tryd.params4] at ht
        have hm : t ∈ [28, 22, 22] := by simpa using Array.mem_of_getElem? ht
        have hall : ([28, 22, 22].all fun u => !Tryd.prog.wantsStandIn u) = true := by kernel_rfl
        exact (show Tryd.prog.wantsStandIn t = false by simpa using List.all_eq_true.1 hall t hm)⟩)
    (by kernel_rfl)
#print axioms hartBegins_proved
end Go.Proofs.YtelakpogochifaaDoor
