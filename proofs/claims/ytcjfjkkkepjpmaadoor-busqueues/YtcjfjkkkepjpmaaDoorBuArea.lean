/-
  Where devices lie: what bus.areaOf, holds, takes and isWidth answer.
-/
import Derived.Test.YtcjfjkkkepjpmaaDoorBase
import Derived.Test.YtcjfjkkkepjpmaaDoorRow
import Derived.Below
namespace Go.Proofs.YtcjfjkkkepjpmaaDoor
open Go.RowKit
set_option linter.unusedVariables false

def firstL : List Nat := [0, 33554432, 201326592, 268435456, 268500992, 268566528, 268632064, 2147483648]
def sizeL : List Nat := [0, 65536, 4194304, 8, 256, 512, 512, 0]
def widL : List Nat := [0, 4, 4, 1, 4, 4, 4, 7]
def firstN (d : Nat) : Nat := firstL.getD d 0
def sizeN (d s : Nat) : Nat := if d = 7 then (if s ≤ 2147483648 then s else 2147483648) else sizeL.getD d 0
def widN (d : Nat) : Nat := widL.getD d 0

/-- What the table of areas holds. -/
def AreasAt (w : World) : Prop := ∀ d, d < 8 → w.cell? ⟨0, d * 3, none⟩ = some (.int .u32 (firstN d : Nat)) ∧ w.cell? ⟨0, d * 3 + 1, none⟩ = some (.int .u32 (sizeL.getD d 0 : Nat)) ∧ w.cell? ⟨0, d * 3 + 2, none⟩ = some (.int .i64 (widN d : Nat))
theorem AreasAt.lt {w : World} (h : AreasAt w) : 0 < w.heap.size := block_lt_of_cell (h 0 (by decide)).1
theorem AreasAt.bl {w w' : World} (h : AreasAt w) (hb : Below w.heap.size w w') : AreasAt w' := fun d hd =>
  ⟨(hb.cell (p := ⟨0, d * 3, none⟩) h.lt).trans (h d hd).1, (hb.cell (p := ⟨0, d * 3 + 1, none⟩) h.lt).trans (h d hd).2.1, (hb.cell (p := ⟨0, d * 3 + 2, none⟩) h.lt).trans (h d hd).2.2⟩

def isW (n : Int) : Bool := decide (n = 1 ∨ n = 2 ∨ n = 4)
theorem isWidth_any (n : Int) (w : World) : Calls Tryd.prog 22 #[.int .i64 n] w fun e w' => e = .returned (.bool (isW n)) ∧ w' = w := by
  by_cases h1 : n = 1
  · subst h1
    go_enter Tryd.func22, Tryd.ntmps22
    go_wp2
    go_ret
    exact ⟨rfl, rfl⟩
  · by_cases h2 : n = 2
    · subst h2
      go_enter Tryd.func22, Tryd.ntmps22
      go_wp2
      go_ret
      exact ⟨rfl, rfl⟩
    · by_cases h4 : n = 4
      · subst h4
        go_enter Tryd.func22, Tryd.ntmps22
        go_wp2
        go_ret
        exact ⟨rfl, rfl⟩
      · have e1 : (n == 1) = false := by simpa using h1
        have e2 : (n == 2) = false := by simpa using h2
        have e4 : (n == 4) = false := by simpa using h4
        have hi : isW n = false := by unfold isW; simp [h1, h2, h4]
        rw [hi]
        clear hi
        go_enter Tryd.func22, Tryd.ntmps22
        go_wp2
        go_ret
        exact ⟨rfl, rfl⟩

def takesW (wd : Nat) (n : Int) : Bool := decide ((n = 1 ∨ n = 2 ∨ n = 4) ∧ (wd = 7 ∨ n = wd))
theorem takes_any (f s : Int) (wd : Nat) (hw : wd = 1 ∨ wd = 4 ∨ wd = 7) (n : Int) (w : World) :
    Calls Tryd.prog 25 #[.agg #[.int .u32 f, .int .u32 s, .int .i64 wd], .int .i64 n] w fun e w' => e = .returned (.bool (takesW wd n)) ∧ Below w.heap.size w w' := by
  have HI := hide (isWidth_any n)
  by_cases h : n = 1 ∨ n = 2 ∨ n = 4
  · rw [show isW n = true by unfold isW; simpa using h] at HI
    rcases h with rfl | rfl | rfl <;> rcases hw with rfl | rfl | rfl
    all_goals
      go_enter Tryd.func25, Tryd.ntmps25
      go_wp2_with (go_at_call 22; refine (HI.out _).mono ?_; rintro e w1 ⟨rfl, rfl⟩)
      go_ret
      exact ⟨congrArg (fun b : Bool => Ending.returned (.bool b)) (by decide +kernel), (Below.refl _ w).alloc (Nat.le_refl _) _⟩
  · rw [show isW n = false by unfold isW; simpa using h] at HI
    rw [show takesW wd n = false by unfold takesW; simp [h]]
    clear h hw
    go_enter Tryd.func25, Tryd.ntmps25
    go_wp2_with (go_at_call 22; refine (HI.out _).mono ?_; rintro e w1 ⟨rfl, rfl⟩)
    go_ret
    exact ⟨rfl, (Below.refl _ w).alloc (Nat.le_refl _) _⟩

theorem holds_any (f : Int) (s : Nat) (hs : s < 4294967296) (wd : Int) (x : Nat) (hx : x < 4294967296) (n : Nat) (hn : n ≤ 4) (w : World) :
    Calls Tryd.prog 24 #[.agg #[.int .u32 f, .int .u32 s, .int .i64 wd], .int .u32 x, .int .i64 n] w fun e w' => e = .returned (.bool (decide (x + n ≤ s))) ∧ Below w.heap.size w w' := by
  go_enter Tryd.func24, Tryd.ntmps24
  go_wp2
  go_ret
  exact ⟨congrArg (fun b : Bool => Ending.returned (.bool b)) (by simp only [decide_eq_decide]; omega), (Below.refl _ w).alloc (Nat.le_refl _) _⟩

theorem size_area : (Tryd.prog.info? 63).map (·.size) = some 3 := by kernel_rfl
set_option maxHeartbeats 400000 in
theorem area_any (d : Nat) (hd : d < 8) (s : Nat) (hs : s < 4294967296) (w : World) (hA : AreasAt w) :
    Calls Tryd.prog 23 #[.int .i64 d, .int .u32 s] w fun e w' => e = .returned (.agg #[.int .u32 (firstN d : Nat), .int .u32 (sizeN d s : Nat), .int .i64 (widN d : Nat)]) ∧ Below w.heap.size w w' := by
  obtain ⟨c0, c1, c2⟩ := hA d hd
  have hl := hA.lt
  unfold sizeN
  generalize firstN d = f at *
  generalize sizeL.getD d 0 = z at *
  generalize widN d = wd at *
  clear hA
  by_cases h7 : d = 7
  · subst h7
    rw [if_pos rfl]
    by_cases h8 : s ≤ 2147483648
    · have h9 : (s : Int) ≤ 2147483648 := by omega
      rw [if_pos h8]
      go_enter Tryd.func23, Tryd.ntmps23
      go_wp2
      refine bodyPost_ret (results_cell_row Tryd.results23 _ _ w.heap.size _ _ _ _ rfl ((RowAt.new w _ _ _ rfl).al _) Tryd.underlying63 rfl size_area) rfl ?_
      exact ⟨rfl, below_two _ _ _⟩
    · have h9 : 2147483648 < (s : Int) := by omega
      rw [if_neg h8]
      go_enter Tryd.func23, Tryd.ntmps23
      go_wp2
      refine bodyPost_ret (results_cell_row Tryd.results23 _ _ w.heap.size _ _ _ _ rfl ((RowAt.new w _ _ _ rfl).al _) Tryd.underlying63 rfl size_area) rfl ?_
      exact ⟨rfl, below_two _ _ _⟩
  · rw [if_neg h7]
    have e7 : ((d : Int) == 7) = false := by simp; omega
    go_enter Tryd.func23, Tryd.ntmps23
    go_wp2
    refine bodyPost_ret (results_cell_row Tryd.results23 _ _ w.heap.size _ _ _ _ rfl ((RowAt.new w _ _ _ rfl).al _) Tryd.underlying63 rfl size_area) rfl ?_
    exact ⟨rfl, below_two _ _ _⟩
end Go.Proofs.YtcjfjkkkepjpmaaDoor
