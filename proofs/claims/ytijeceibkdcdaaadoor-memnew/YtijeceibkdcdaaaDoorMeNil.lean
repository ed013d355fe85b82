/-
  What the calls answer of a nil memory; Pages and Writes of one that is there.
-/
import Derived.Test.YtijeceibkdcdaaaDoorMeSure
import Derived.Test.YtijeceibkdcdaaaDoorLaid
import Derived.BigQuiet
namespace Go.Proofs.YtijeceibkdcdaaaDoor
open Go.RowKit
set_option linter.unusedVariables false

abbrev argE : Value := .iface 51 (.int .i64 1)
theorem nil_load (w : World) : Calls Tryd.prog 4 #[.pointer none, .int .u32 0, .int .i64 1] w fun e w' => e = .returned (.tuple #[.int .u32 0, argE]) ∧ w' = w := by
  have HC := hide (check_nil 0 1)
  go_enter Tryd.func4, Tryd.ntmps4
  go_wp2_with (go_at_call 20; refine (HC.out _).mono ?_; rintro e w1 ⟨rfl, rfl⟩)
  go_ret2
  exact ⟨rfl, rfl⟩
theorem nil_store (w : World) : Calls Tryd.prog 9 #[.pointer none, .int .u32 0, .int .i64 1, .int .u32 0] w fun e w' => e = .returned argE ∧ w' = w := by
  have HC := hide (check_nil 0 1)
  go_enter Tryd.func9, Tryd.ntmps9
  go_wp2_with (go_at_call 20; refine (HC.out _).mono ?_; rintro e w1 ⟨rfl, rfl⟩)
  go_ret
  exact ⟨rfl, rfl⟩
theorem nil_read (w : World) : Calls Tryd.prog 5 #[.pointer none, .int .u32 0, .int .i64 0] w fun e w' => e = .returned (.tuple #[.slice none 0 0, argE]) ∧ w' = w := by
  go_enter Tryd.func5, Tryd.ntmps5
  go_wp2
  go_ret2
  exact ⟨rfl, rfl⟩
theorem nil_write (w : World) : Calls Tryd.prog 10 #[.pointer none, .int .u32 0, .slice none 0 0] w fun e w' => e = .returned argE ∧ w' = w := by
  go_enter Tryd.func10, Tryd.ntmps10
  go_wp2
  go_ret
  exact ⟨rfl, rfl⟩
theorem nil_checkPage (p : Int) (w : World) : Calls Tryd.prog 25 #[.pointer none, .int .i64 p] w fun e w' => e = .returned argE ∧ w' = w := by
  go_enter Tryd.func25, Tryd.ntmps25
  go_wp2
  go_ret
  exact ⟨rfl, rfl⟩
theorem nil_page (w : World) : Calls Tryd.prog 6 #[.pointer none, .int .i64 0] w fun e w' => e = .returned (.tuple #[.slice none 0 0, argE]) ∧ w' = w := by
  have HC := hide (nil_checkPage 0)
  go_enter Tryd.func6, Tryd.ntmps6
  go_wp2_with (go_at_call 25; refine (HC.out _).mono ?_; rintro e w1 ⟨rfl, rfl⟩)
  go_ret2
  exact ⟨rfl, rfl⟩
theorem nil_setPage (w : World) : Calls Tryd.prog 11 #[.pointer none, .int .i64 0, .slice none 0 0] w fun e w' => e = .returned argE ∧ w' = w := by
  have HC := hide (nil_checkPage 0)
  go_enter Tryd.func11, Tryd.ntmps11
  go_wp2_with (go_at_call 25; refine (HC.out _).mono ?_; rintro e w1 ⟨rfl, rfl⟩)
  go_ret
  exact ⟨rfl, rfl⟩
theorem nil_digest (w : World) : Calls Tryd.prog 7 #[.pointer none, .int .i64 0] w fun e w' => e = .returned (.tuple #[.int .u32 0, argE]) ∧ w' = w := by
  have HC := hide (nil_checkPage 0)
  go_enter Tryd.func7, Tryd.ntmps7
  go_wp2_with (go_at_call 25; refine (HC.out _).mono ?_; rintro e w1 ⟨rfl, rfl⟩)
  go_ret2
  exact ⟨rfl, rfl⟩
theorem nil_pages (w : World) : Calls Tryd.prog 12 #[.pointer none] w fun e w' => e = .returned (.int .i64 0) ∧ w' = w := by
  go_enter Tryd.func12, Tryd.ntmps12
  go_wp2
  go_ret
  exact ⟨rfl, rfl⟩
theorem nil_writes (w : World) : Calls Tryd.prog 13 #[.pointer none] w fun e w' => e = .returned (.int .i64 0) ∧ w' = w := by
  go_enter Tryd.func13, Tryd.ntmps13
  go_wp2
  go_ret
  exact ⟨rfl, rfl⟩
theorem nil_dirty (w : World) : Calls Tryd.prog 14 #[.pointer none] w fun e w' => e = .returned (.slice none 0 0) ∧ w' = w := by
  go_enter Tryd.func14, Tryd.ntmps14
  go_wp2
  go_ret
  exact ⟨rfl, rfl⟩
theorem nil_harvest (w : World) : Calls Tryd.prog 15 #[.pointer none] w fun e w' => e = .returned (.slice none 0 0) ∧ w' = w := by
  go_enter Tryd.func15, Tryd.ntmps15
  go_wp2
  go_ret
  exact ⟨rfl, rfl⟩
theorem nil_clone (w : World) : Calls Tryd.prog 16 #[.pointer none] w fun e w' => e = .returned (.pointer none) ∧ w' = w := by
  go_enter Tryd.func16, Tryd.ntmps16
  go_wp2
  go_ret
  exact ⟨rfl, rfl⟩
theorem nil_same (w : World) : Calls Tryd.prog 17 #[.pointer none, .pointer none] w fun e w' => e = .returned (.bool false) ∧ ∃ n, w' = w.drewN n := by
  go_enter Tryd.func17, Tryd.ntmps17
  go_wp2_with (fail)
  go_quiet (fail)
  go_wp2
  go_ret
  exact ⟨rfl, _, rfl⟩

theorem pages_any {w : World} {B b P D : Nat} {m : Mem} (h : RamAt w B b P D m) : Calls Tryd.prog 12 #[.pointer (some ⟨b, 0, none⟩)] w fun e w' => e = .returned (.int .i64 (m.n : Nat)) ∧ w' = w := by
  have c0 : w.cell? ⟨b, 0, none⟩ = some (.slice (some ⟨P, 0, none⟩) m.n m.n) := h.pagesAt
  go_enter Tryd.func12, Tryd.ntmps12
  go_wp2
  go_ret
  exact ⟨rfl, rfl⟩
theorem loadA_any (b o : Nat) (x : Int) (w : World) (c : w.cell? ⟨b, o, none⟩ = some (.int .i64 x)) :
    Calls Tryd.prog 30 #[.pointer (some ⟨b, o, none⟩)] w fun e w' => e = .returned (.int .i64 x) ∧ w' = w := by
  have hl := run_call_load (P := Tryd.prog) Tryd.func45 (by kernel_rfl) (by kernel_rfl) (by kernel_rfl) .i64 (by kernel_rfl) c
  go_enter Tryd.func30, Tryd.ntmps30
  go_wp2
  go_ret
  exact ⟨rfl, rfl⟩
theorem writes_any {w : World} {B b P D : Nat} {m : Mem} (h : RamAt w B b P D m) : Calls Tryd.prog 13 #[.pointer (some ⟨b, 0, none⟩)] w fun e w' => e = .returned (.int .i64 (m.wr : Nat)) ∧ w' = w := by
  obtain ⟨n, o, hr⟩ := h.head
  have HL := hide (loadA_any b 2 _ w (show w.cell? ⟨b, 2, none⟩ = some (.int .i64 (m.wr : Nat)) from hr.cell 2))
  go_enter Tryd.func13, Tryd.ntmps13
  go_wp2_with (go_at_call 30; refine HL.out.mono ?_; rintro e w1 ⟨rfl, rfl⟩)
  go_ret
  exact ⟨rfl, rfl⟩
end Go.Proofs.YtijeceibkdcdaaaDoor
