/-
  What bus.Find and bus.Base answer.
-/
import Derived.Test.YtghpjibjhaomoaaGreatDoorJBase
import Derived.Test.YtghpjibjhaomoaaGreatDoorJRow
import Derived.Below
import Derived.BigQuiet
import Derived.OwnWalk
namespace Go.Proofs.YtghpjibjhaomoaaGreatDoor
open Go.RowKit
set_option linter.unusedVariables false

def firstL : List Nat := [0, 33554432, 201326592, 268435456, 268500992, 268566528, 268632064, 2147483648]
def sizeL : List Nat := [0, 65536, 4194304, 8, 256, 512, 512, 0]
def widL : List Nat := [0, 4, 4, 1, 4, 4, 4, 7]
def firstN (d : Nat) : Nat := firstL.getD d 0
def sizeN (d s : Nat) : Nat := if d = 7 then (if s ≤ 2147483648 then s else 2147483648) else sizeL.getD d 0
def widN (d : Nat) : Nat := widL.getD d 0

/-- What the table of areas holds. -/
def AreasAt (w : World) : Prop := ∀ d, d < 8 → w.cell? ⟨1, d * 3, none⟩ = some (.int .u32 (firstN d : Nat)) ∧ w.cell? ⟨1, d * 3 + 1, none⟩ = some (.int .u32 (sizeL.getD d 0 : Nat)) ∧ w.cell? ⟨1, d * 3 + 2, none⟩ = some (.int .i64 (widN d : Nat))
theorem AreasAt.lt {w : World} (h : AreasAt w) : 1 < w.heap.size := block_lt_of_cell (h 0 (by decide)).1
theorem AreasAt.bl {w w' : World} (h : AreasAt w) (hb : Below w.heap.size w w') : AreasAt w' := fun d hd =>
  ⟨(hb.cell (p := ⟨1, d * 3, none⟩) h.lt).trans (h d hd).1, (hb.cell (p := ⟨1, d * 3 + 1, none⟩) h.lt).trans (h d hd).2.1, (hb.cell (p := ⟨1, d * 3 + 2, none⟩) h.lt).trans (h d hd).2.2⟩

def isW (n : Int) : Bool := decide (n = 1 ∨ n = 2 ∨ n = 4)
def takesW (wd : Nat) (n : Int) : Bool := decide ((n = 1 ∨ n = 2 ∨ n = 4) ∧ (wd = 7 ∨ n = wd))
theorem size_area : (Tryz.prog.info? 179).map (·.size) = some 3 := by kernel_rfl
set_option maxHeartbeats 400000 in
theorem area_any (d : Nat) (hd : d < 8) (s : Nat) (hs : s < 4294967296) (w : World) (hA : AreasAt w) :
    Calls Tryz.prog 81 #[.int .i64 d, .int .u32 s] w fun e w' => e = .returned (.agg #[.int .u32 (firstN d : Nat), .int .u32 (sizeN d s : Nat), .int .i64 (widN d : Nat)]) ∧ Below w.heap.size w w' := by
  obtain ⟨c0, c1, c2⟩ := hA d hd
  have hl := hA.lt
  unfold sizeN
  generalize firstN d = f at *
  generalize sizeL.getD d 0 = z at *
  generalize widN d = wd at *
  clear hA
  by_cases h7 : d = 7
  · subst h7
    rw [if_pos rfl]
    by_cases h8 : s ≤ 2147483648
    · have h9 : (s : Int) ≤ 2147483648 := by omega
      rw [if_pos h8]
      go_enter Tryz.func81, Tryz.ntmps81
      go_wp2
      refine bodyPost_ret (results_cell_row Tryz.results81 _ _ w.heap.size _ _ _ _ rfl ((RowAt.new w _ _ _ rfl).al _) Tryz.underlying179 rfl size_area) rfl ?_
      exact ⟨rfl, below_two _ _ _⟩
    · have h9 : 2147483648 < (s : Int) := by omega
      rw [if_neg h8]
      go_enter Tryz.func81, Tryz.ntmps81
      go_wp2
      refine bodyPost_ret (results_cell_row Tryz.results81 _ _ w.heap.size _ _ _ _ rfl ((RowAt.new w _ _ _ rfl).al _) Tryz.underlying179 rfl size_area) rfl ?_
      exact ⟨rfl, below_two _ _ _⟩
  · rw [if_neg h7]
    have e7 : ((d : Int) == 7) = false := by simp; omega
    go_enter Tryz.func81, Tryz.ntmps81
    go_wp2
    refine bodyPost_ret (results_cell_row Tryz.results81 _ _ w.heap.size _ _ _ _ rfl ((RowAt.new w _ _ _ rfl).al _) Tryz.underlying179 rfl size_area) rfl ?_
    exact ⟨rfl, below_two _ _ _⟩
end Go.Proofs.YtghpjibjhaomoaaGreatDoor
namespace Go.Proofs.YtghpjibjhaomoaaGreatDoor
open Go.RowKit
set_option linter.unusedVariables false

def errB (n : Nat) : Value := if n = 0 then .nilIface else .iface 84 (.int .i64 (n : Int))
def insideN (d s a n : Nat) : Bool := decide (firstN d ≤ a ∧ a - firstN d + n ≤ sizeN d s)
abbrev Fnd := Nat × Nat × Nat
def findFrom (s a n : Nat) : Nat → Nat → Fnd
  | 0, _ => (0, 0, 20)
  | k + 1, d => if insideN d s a n = true then (if takesW (widN d) n = true then (d, a - firstN d, 0) else (0, 0, 21)) else findFrom s a n k (d + 1)
def findV (s a : Nat) (n : Int) : Fnd := if isW n = true then (if a % n.toNat = 0 then findFrom s a n.toNat 7 1 else (0, 0, 5)) else (0, 0, 21)
def fndV (f : Fnd) : Value := .tuple #[.int .i64 (f.1 : Nat), .int .u32 (f.2.1 : Nat), errB f.2.2]

theorem first_lt {d : Nat} (h : d < 8) : firstN d < 4294967296 := by
  have : ∀ d, d < 8 → firstN d < 4294967296 := by decide
  exact this d h
theorem size_lt {d s : Nat} (h : d < 8) : sizeN d s < 4294967296 := by
  have : ∀ d, d < 8 → sizeL.getD d 0 < 4294967296 := by decide
  have := this d h
  unfold sizeN
  split
  · split <;> omega
  · exact this
theorem wid_is {d : Nat} (h0 : 1 ≤ d) (h : d < 8) : widN d = 1 ∨ widN d = 4 ∨ widN d = 7 := by
  have : ∀ d, d < 8 → 1 ≤ d → (widN d = 1 ∨ widN d = 4 ∨ widN d = 7) := by decide
  exact this d h h0

theorem below_dnB {n : Nat} {w w' : World} (h : Below n w w') (k : Nat) : Below n w (w'.drewN k) := ⟨h.os, h.tape, h.output, h.size, h.block⟩
theorem base_any (d : Int) (s : Nat) (hs : s < 4294967296) (w : World) (hA : AreasAt w) :
    Calls Tryz.prog 68 #[.int .i64 d, .int .u32 s] w fun e w' => e = .returned (if 1 ≤ d ∧ d ≤ 7 then .tuple #[.int .u32 (firstN d.toNat : Nat), .int .u32 (sizeN d.toNat s : Nat)] else .tuple #[.int .u32 0, .int .u32 0]) ∧ Below w.heap.size w w' := by
  by_cases h : 1 ≤ d ∧ d ≤ 7
  · rw [if_pos h]
    obtain ⟨k, rfl⟩ := Int.eq_ofNat_of_zero_le (show 0 ≤ d by omega)
    have HA := hide (area_any k (by omega) s hs w hA)
    rw [Int.toNat_natCast]
    have t1 : ¬ (k : Int) < 1 := by omega
    have t7 : ¬ 7 < (k : Int) := by omega
    clear hA h
    generalize firstN k = f at *
    generalize sizeN k s = z at *
    go_enter Tryz.func68, Tryz.ntmps68
    go_wp2_with (go_at_call 81; refine HA.out.mono ?_; rintro e w1 ⟨rfl, hb1⟩)
    go_quiet (fail)
    go_wp2
    go_ret2
    exact ⟨rfl, below_dnB (hb1.alloc hb1.size _) _⟩
  · rw [if_neg h]
    by_cases h1 : d < 1
    · go_enter Tryz.func68, Tryz.ntmps68
      go_wp2
      go_ret2
      exact ⟨rfl, Below.refl _ _⟩
    · have h7 : 7 < d := by omega
      go_enter Tryz.func68, Tryz.ntmps68
      go_wp2
      go_ret2
      exact ⟨rfl, Below.refl _ _⟩


theorem findFrom_no {s a n k d : Nat} (h : insideN d s a n = false) : findFrom s a n (k + 1) d = findFrom s a n k (d + 1) := by
  rw [findFrom, if_neg (by rw [h]; simp)]
theorem findFrom_yes {s a n k d : Nat} (h : insideN d s a n = true) (ht : takesW (widN d) n = true) : findFrom s a n (k + 1) d = (d, a - firstN d, 0) := by
  rw [findFrom, if_pos h, if_pos ht]
theorem findFrom_bad {s a n k d : Nat} (h : insideN d s a n = true) (ht : takesW (widN d) n = false) : findFrom s a n (k + 1) d = (0, 0, 21) := by
  rw [findFrom, if_pos h, if_neg (by rw [ht]; simp)]

def FdRel (s a n : Nat) (w : World) (dv : Value) (wr : World) : Prop :=
  ∃ d : Nat, 1 ≤ d ∧ d ≤ 8 ∧ dv = .int .i64 (d : Nat) ∧ findFrom s a n 7 1 = findFrom s a n (8 - d) d ∧ Below w.heap.size w wr

end Go.Proofs.YtghpjibjhaomoaaGreatDoor
