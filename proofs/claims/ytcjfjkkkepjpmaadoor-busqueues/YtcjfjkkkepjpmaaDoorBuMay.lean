/-
  Writes that wait: what mayBe answers.
-/
import Derived.Test.YtcjfjkkkepjpmaaDoorBuFind
namespace Go.Proofs.YtcjfjkkkepjpmaaDoor
open Go.RowKit
set_option linter.unusedVariables false

structure Pst where
  dev : Int
  at' : Nat
  n : Int
  v : Nat
def Pst.cells (p : Pst) : Array Value := #[.int .i64 p.dev, .int .u32 (p.at' : Nat), .int .i64 p.n, .int .u32 (p.v : Nat)]
def Pst.Ok (p : Pst) : Prop := p.at' < 4294967296 ∧ p.v < 4294967296
def mayP (p : Pst) : Bool := decide (1 ≤ p.dev ∧ p.dev ≤ 6) && (takesW (widN p.dev.toNat) p.n && (decide (p.at' % p.n.toNat = 0) && decide (p.at' + p.n.toNat ≤ sizeN p.dev.toNat 0)))

set_option maxHeartbeats 1000000 in
theorem may_any (p : Pst) (hp : p.Ok) (w : World) (hA : AreasAt w) :
    Calls Tryd.prog 28 #[.agg p.cells] w fun e w' => e = .returned (.bool (mayP p)) ∧ Below w.heap.size w w' := by
  obtain ⟨dev, a, n, v⟩ := p
  obtain ⟨ha, hv⟩ := hp
  show Calls Tryd.prog 28 #[.agg #[.int .i64 dev, .int .u32 (a : Nat), .int .i64 n, .int .u32 (v : Nat)]] w _
  unfold mayP
  simp only at ha hv ⊢
  by_cases h1 : dev < 1
  · rw [show decide (1 ≤ dev ∧ dev ≤ 6) = false by simp; omega, Bool.false_and]
    go_enter Tryd.func28, Tryd.ntmps28
    go_wp2
    go_ret
    exact ⟨rfl, below_one _ _⟩
  by_cases h6 : 6 < dev
  · rw [show decide (1 ≤ dev ∧ dev ≤ 6) = false by simp; omega, Bool.false_and]
    go_enter Tryd.func28, Tryd.ntmps28
    go_wp2
    go_ret
    exact ⟨rfl, below_one _ _⟩
  rw [show decide (1 ≤ dev ∧ dev ≤ 6) = true by simp; omega, Bool.true_and]
  obtain ⟨d, rfl⟩ := Int.eq_ofNat_of_zero_le (show 0 ≤ dev by omega)
  rw [Int.toNat_natCast]
  have hd8 : d < 8 := by omega
  have HAr : Hid (∀ w', Below w.heap.size w w' → Calls Tryd.prog 23 #[.int .i64 (d : Nat), .int .u32 0] w' fun e w'' => e = .returned (.agg #[.int .u32 (firstN d : Nat), .int .u32 (sizeN d 0 : Nat), .int .i64 (widN d : Nat)]) ∧ Below w'.heap.size w' w'') := hide (fun w' hb => area_any d hd8 0 (by decide) w' (hA.bl hb))
  have HT := hide (fun (f z : Int) => takes_any f z (widN d) (wid_is (by omega) hd8) n)
  have hzl : sizeN d 0 < 4294967296 := size_lt hd8
  have HP0 := hide (RowAt.new w w.heap.size #[.int .i64 (d : Nat), .int .u32 (a : Nat), .int .i64 n, .int .u32 (v : Nat)] 46 rfl)
  by_cases ht : takesW (widN d) n = true
  · rw [ht] at HT ⊢
    have hn : n = 1 ∨ n = 2 ∨ n = 4 := (of_decide_eq_true ht).1
    obtain ⟨k, rfl⟩ := Int.eq_ofNat_of_zero_le (show 0 ≤ n by omega)
    rw [Int.toNat_natCast, Bool.true_and]
    have hk0 : (k : Int) ≠ 0 := by omega
    have hk4 : k ≤ 4 := by omega
    have HH := hide (fun (f wd : Int) => holds_any f (sizeN d 0) hzl wd a ha k hk4)
    generalize firstN d = f at *
    generalize sizeN d 0 = z at *
    generalize widN d = wd at *
    by_cases hal : a % k = 0
    · rw [show decide (a % k = 0) = true by simpa using hal, Bool.true_and]
      have hal' : ((a : Int) % (k : Int) == 0) = true := by
        have : (a : Int) % (k : Int) = 0 := by omega
        simp [this]
      clear ht hn hal hA
      generalize decide (a + k ≤ z) = r at *
      go_enter Tryd.func28, Tryd.ntmps28
      go_wp2_with (first | (go_at_call 23; refine (HAr.out _ (below_one _ _)).mono ?_; rintro e w1 ⟨rfl, hb1⟩; have R1 := hide (HP0.out.bl hb1); have B1 := hide (below_bl rfl (below_one w _) hb1); have q3 : ∀ o, (w1.alloc o).cell? ⟨w.heap.size, 2, none⟩ = some (.int .i64 (k : Nat)) := fun o => cellA (R1.out.cell 2) o; clear hb1) | (go_at_call 25; refine (HT.out _ _ _).mono ?_; rintro e w2 ⟨rfl, hb2⟩; have R2 := hide ((R1.out.al _).bl hb2); have S2 := hide ((RowAt.new w1 w1.heap.size #[.int .u32 (f : Nat), .int .u32 (z : Nat), .int .i64 (wd : Nat)] 63 rfl).bl hb2); have B2 := hide (below_bl rfl (B1.out.alloc B1.out.size _) hb2); clear q3; have q2 : w2.cell? ⟨w.heap.size, 1, none⟩ = some (.int .u32 (a : Nat)) := R2.out.cell 1; have q3 : w2.cell? ⟨w.heap.size, 2, none⟩ = some (.int .i64 (k : Nat)) := R2.out.cell 2; have s0 : w2.cell? ⟨w1.heap.size, 0, none⟩ = some (.int .u32 (f : Nat)) := S2.out.cell 0; have s1 : w2.cell? ⟨w1.heap.size, 1, none⟩ = some (.int .u32 (z : Nat)) := S2.out.cell 1; have s2 : w2.cell? ⟨w1.heap.size, 2, none⟩ = some (.int .i64 (wd : Nat)) := S2.out.cell 2; clear hb2) | (go_at_call 24; refine (HH.out _ _ _).mono ?_; rintro e w3 ⟨rfl, hb3⟩; have B3 := hide (below_bl rfl B2.out hb3); clear hb3))
      go_ret
      exact ⟨rfl, B3.out⟩
    · rw [show decide (a % k = 0) = false by simpa using hal, Bool.false_and]
      have hal' : ((a : Int) % (k : Int) == 0) = false := by
        have : ¬ (a : Int) % (k : Int) = 0 := by omega
        simp [this]
      clear ht hn hal hA
      go_enter Tryd.func28, Tryd.ntmps28
      go_wp2_with (first | (go_at_call 23; refine (HAr.out _ (below_one _ _)).mono ?_; rintro e w1 ⟨rfl, hb1⟩; have R1 := hide (HP0.out.bl hb1); have B1 := hide (below_bl rfl (below_one w _) hb1); have q3 : ∀ o, (w1.alloc o).cell? ⟨w.heap.size, 2, none⟩ = some (.int .i64 (k : Nat)) := fun o => cellA (R1.out.cell 2) o; clear hb1) | (go_at_call 25; refine (HT.out _ _ _).mono ?_; rintro e w2 ⟨rfl, hb2⟩; have R2 := hide ((R1.out.al _).bl hb2); have S2 := hide ((RowAt.new w1 w1.heap.size #[.int .u32 (f : Nat), .int .u32 (z : Nat), .int .i64 (wd : Nat)] 63 rfl).bl hb2); have B2 := hide (below_bl rfl (B1.out.alloc B1.out.size _) hb2); clear q3; have q2 : w2.cell? ⟨w.heap.size, 1, none⟩ = some (.int .u32 (a : Nat)) := R2.out.cell 1; have q3 : w2.cell? ⟨w.heap.size, 2, none⟩ = some (.int .i64 (k : Nat)) := R2.out.cell 2; have s0 : w2.cell? ⟨w1.heap.size, 0, none⟩ = some (.int .u32 (f : Nat)) := S2.out.cell 0; have s1 : w2.cell? ⟨w1.heap.size, 1, none⟩ = some (.int .u32 (z : Nat)) := S2.out.cell 1; have s2 : w2.cell? ⟨w1.heap.size, 2, none⟩ = some (.int .i64 (wd : Nat)) := S2.out.cell 2; clear hb2) | (go_at_call 24; refine (HH.out _ _ _).mono ?_; rintro e w3 ⟨rfl, hb3⟩; have B3 := hide (below_bl rfl B2.out hb3); clear hb3))
      go_ret
      exact ⟨rfl, B2.out⟩
  · have ht' : takesW (widN d) n = false := by simpa using ht
    rw [ht'] at HT ⊢
    rw [Bool.false_and]
    generalize firstN d = f at *
    generalize sizeN d 0 = z at *
    generalize widN d = wd at *
    clear ht ht' hA
    go_enter Tryd.func28, Tryd.ntmps28
    go_wp2_with (first | (go_at_call 23; refine (HAr.out _ (below_one _ _)).mono ?_; rintro e w1 ⟨rfl, hb1⟩; have R1 := hide (HP0.out.bl hb1); have B1 := hide (below_bl rfl (below_one w _) hb1); have q3 : ∀ o, (w1.alloc o).cell? ⟨w.heap.size, 2, none⟩ = some (.int .i64 n) := fun o => cellA (R1.out.cell 2) o; clear hb1) | (go_at_call 25; refine (HT.out _ _ _).mono ?_; rintro e w2 ⟨rfl, hb2⟩; have R2 := hide ((R1.out.al _).bl hb2); have S2 := hide ((RowAt.new w1 w1.heap.size #[.int .u32 (f : Nat), .int .u32 (z : Nat), .int .i64 (wd : Nat)] 63 rfl).bl hb2); have B2 := hide (below_bl rfl (B1.out.alloc B1.out.size _) hb2); clear q3; have q2 : w2.cell? ⟨w.heap.size, 1, none⟩ = some (.int .u32 (a : Nat)) := R2.out.cell 1; have q3 : w2.cell? ⟨w.heap.size, 2, none⟩ = some (.int .i64 n) := R2.out.cell 2; have s0 : w2.cell? ⟨w1.heap.size, 0, none⟩ = some (.int .u32 (f : Nat)) := S2.out.cell 0; have s1 : w2.cell? ⟨w1.heap.size, 1, none⟩ = some (.int .u32 (z : Nat)) := S2.out.cell 1; have s2 : w2.cell? ⟨w1.heap.size, 2, none⟩ = some (.int .i64 (wd : Nat)) := S2.out.cell 2; clear hb2) | (go_at_call 24; refine (HH.out _ _ _).mono ?_; rintro e w3 ⟨rfl, hb3⟩; have B3 := hide (below_bl rfl B2.out hb3); clear hb3))
    go_ret
    exact ⟨rfl, B2.out⟩
end Go.Proofs.YtcjfjkkkepjpmaaDoor
