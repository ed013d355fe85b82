/-
  What bus.Find and bus.Base answer.
-/
import Derived.Test.YtcjfjkkkepjpmaaDoorBuArea
import Derived.BigQuiet
import Derived.OwnWalk
namespace Go.Proofs.YtcjfjkkkepjpmaaDoor
open Go.RowKit
set_option linter.unusedVariables false

def errB (n : Nat) : Value := if n = 0 then .nilIface else .iface 61 (.int .i64 (n : Int))
def insideN (d s a n : Nat) : Bool := decide (firstN d ≤ a ∧ a - firstN d + n ≤ sizeN d s)
abbrev Fnd := Nat × Nat × Nat
def findFrom (s a n : Nat) : Nat → Nat → Fnd
  | 0, _ => (0, 0, 20)
  | k + 1, d => if insideN d s a n = true then (if takesW (widN d) n = true then (d, a - firstN d, 0) else (0, 0, 21)) else findFrom s a n k (d + 1)
def findV (s a : Nat) (n : Int) : Fnd := if isW n = true then (if a % n.toNat = 0 then findFrom s a n.toNat 7 1 else (0, 0, 5)) else (0, 0, 21)
def fndV (f : Fnd) : Value := .tuple #[.int .i64 (f.1 : Nat), .int .u32 (f.2.1 : Nat), errB f.2.2]

theorem first_lt {d : Nat} (h : d < 8) : firstN d < 4294967296 := by
  have : ∀ d, d < 8 → firstN d < 4294967296 := by decide
  exact this d h
theorem size_lt {d s : Nat} (h : d < 8) : sizeN d s < 4294967296 := by
  have : ∀ d, d < 8 → sizeL.getD d 0 < 4294967296 := by decide
  have := this d h
  unfold sizeN
  split
  · split <;> omega
  · exact this
theorem wid_is {d : Nat} (h0 : 1 ≤ d) (h : d < 8) : widN d = 1 ∨ widN d = 4 ∨ widN d = 7 := by
  have : ∀ d, d < 8 → 1 ≤ d → (widN d = 1 ∨ widN d = 4 ∨ widN d = 7) := by decide
  exact this d h h0

theorem below_dn {n : Nat} {w w' : World} (h : Below n w w') (k : Nat) : Below n w (w'.drewN k) := ⟨h.os, h.tape, h.output, h.size, h.block⟩
theorem base_any (d : Int) (s : Nat) (hs : s < 4294967296) (w : World) (hA : AreasAt w) :
    Calls Tryd.prog 12 #[.int .i64 d, .int .u32 s] w fun e w' => e = .returned (if 1 ≤ d ∧ d ≤ 7 then .tuple #[.int .u32 (firstN d.toNat : Nat), .int .u32 (sizeN d.toNat s : Nat)] else .tuple #[.int .u32 0, .int .u32 0]) ∧ Below w.heap.size w w' := by
  by_cases h : 1 ≤ d ∧ d ≤ 7
  · rw [if_pos h]
    obtain ⟨k, rfl⟩ := Int.eq_ofNat_of_zero_le (show 0 ≤ d by omega)
    have HA := hide (area_any k (by omega) s hs w hA)
    rw [Int.toNat_natCast]
    have t1 : ¬ (k : Int) < 1 := by omega
    have t7 : ¬ 7 < (k : Int) := by omega
    clear hA h
    generalize firstN k = f at *
    generalize sizeN k s = z at *
    go_enter Tryd.func12, Tryd.ntmps12
    go_wp2_with (go_at_call 23; refine HA.out.mono ?_; rintro e w1 ⟨rfl, hb1⟩)
    go_quiet (fail)
    go_wp2
    go_ret2
    exact ⟨rfl, below_dn (hb1.alloc hb1.size _) _⟩
  · rw [if_neg h]
    by_cases h1 : d < 1
    · go_enter Tryd.func12, Tryd.ntmps12
      go_wp2
      go_ret2
      exact ⟨rfl, Below.refl _ _⟩
    · have h7 : 7 < d := by omega
      go_enter Tryd.func12, Tryd.ntmps12
      go_wp2
      go_ret2
      exact ⟨rfl, Below.refl _ _⟩


theorem findFrom_no {s a n k d : Nat} (h : insideN d s a n = false) : findFrom s a n (k + 1) d = findFrom s a n k (d + 1) := by
  rw [findFrom, if_neg (by rw [h]; simp)]
theorem findFrom_yes {s a n k d : Nat} (h : insideN d s a n = true) (ht : takesW (widN d) n = true) : findFrom s a n (k + 1) d = (d, a - firstN d, 0) := by
  rw [findFrom, if_pos h, if_pos ht]
theorem findFrom_bad {s a n k d : Nat} (h : insideN d s a n = true) (ht : takesW (widN d) n = false) : findFrom s a n (k + 1) d = (0, 0, 21) := by
  rw [findFrom, if_pos h, if_neg (by rw [ht]; simp)]

def FdRel (s a n : Nat) (w : World) (dv : Value) (wr : World) : Prop :=
  ∃ d : Nat, 1 ≤ d ∧ d ≤ 8 ∧ dv = .int .i64 (d : Nat) ∧ findFrom s a n 7 1 = findFrom s a n (8 - d) d ∧ Below w.heap.size w wr

set_option maxHeartbeats 1000000 in
theorem find_loop (s a n : Nat) (hs : s < 4294967296) (ha : a < 4294967296) (hn : n = 1 ∨ n = 2 ∨ n = 4) (hal : a % n = 0) (w : World) (hA : AreasAt w) :
    Calls Tryd.prog 8 #[.int .u32 s, .int .u32 a, .int .i64 n] w fun e w' => e = .returned (fndV (findFrom s a n 7 1)) ∧ Below w.heap.size w w' := by
  have HW := hide (isWidth_any n)
  rw [show isW n = true by unfold isW; simp; omega] at HW
  have HAr := hide hA
  have hn0 : (n : Int) ≠ 0 := by omega
  have hn4 : n ≤ 4 := by omega
  have hal' : ((a : Int) % (n : Int) != 0) = false := by
    have : (a : Int) % (n : Int) = 0 := by omega
    simp [this]
  clear hA
  go_enter Tryd.func8, Tryd.ntmps8
  go_wp2_with (go_at_call 22; refine (HW.out _).mono ?_; rintro e w1 ⟨rfl, rfl⟩)
  clear HW hal' hn0
  go_loopw [9] (FdRel s a n w1) (fun dv _ => 8 - (intOf dv).toNat)
  case atStart => exact ⟨1, by omega, by omega, rfl, rfl, Below.refl _ _⟩
  case round =>
    obtain ⟨d, h1, h8, rfl, hF, hB⟩ := hrel
    have HF := hide hF
    clear hF
    by_cases hd : d = 8
    · subst hd
      have t : ¬ ((8 : Nat) : Int) ≤ 7 := by omega
      go_wp2
      go_ret3
      exact ⟨by rw [HF.out]; rfl, hB⟩
    · have t7 : (d : Int) ≤ 7 := by omega
      have hd8 : d < 8 := by omega
      have HA := hide (area_any d hd8 s hs wr (HAr.out.bl hB))
      have hk : 8 - d = (8 - (d + 1)) + 1 := by omega
      rw [hk] at HF
      have hfl := first_lt hd8
      have hzl : sizeN d s < 4294967296 := size_lt hd8
      by_cases hin : insideN d s a n = true
      · have hin' : firstN d ≤ a ∧ a - firstN d + n ≤ sizeN d s := of_decide_eq_true hin
        have HH := hide (fun (f wd : Int) => holds_any f (sizeN d s) hzl wd (a - firstN d) (by omega) n hn4)
        rw [show decide (a - firstN d + n ≤ sizeN d s) = true by simpa using hin'.2] at HH
        have HT := hide (fun (f z : Int) => takes_any f z (widN d) (wid_is h1 hd8) n)
        have ea : ((a - firstN d : Nat) : Int) = (a : Int) - (firstN d : Nat) := by omega
        have tf : ¬ a < firstN d := by omega
        rw [ea] at HH
        by_cases ht : takesW (widN d) n = true
        · have HE := hide (HF.out.trans (findFrom_yes hin ht))
          rw [ht] at HT
          have EA := hide ea
          clear HF ht hin hin' hzl hn hal hk ea
          generalize firstN d = f at *
          generalize sizeN d s = z at *
          generalize widN d = wd at *
          go_wp2_with (first | (go_at_call 23; refine HA.out.mono ?_; rintro e w2 ⟨rfl, hb2⟩; replace hb2 := below_bl rfl hB hb2) | (go_at_call 24; refine (HH.out _ _ _).mono ?_; rintro e w3 ⟨rfl, hb3⟩; have R3 : RowAt w3 w2.heap.size #[.int .u32 (f : Nat), .int .u32 (z : Nat), .int .i64 (wd : Nat)] 63 := (RowAt.new w2 _ _ _ rfl).bl hb3; have k0 : w3.cell? ⟨w2.heap.size, 0, none⟩ = some (.int .u32 (f : Nat)) := R3.cell 0; have k1 : w3.cell? ⟨w2.heap.size, 1, none⟩ = some (.int .u32 (z : Nat)) := R3.cell 1; have k2 : w3.cell? ⟨w2.heap.size, 2, none⟩ = some (.int .i64 (wd : Nat)) := R3.cell 2; clear R3; replace hb3 := below_bl rfl (hb2.alloc hb2.size _) hb3) | (go_at_call 25; refine (HT.out _ _ _).mono ?_; rintro e w4 ⟨rfl, hb4⟩; replace k0 := cell_bl hb4 k0; clear k1 k2; replace hb4 := below_bl rfl hb3 hb4))
          go_quiet (fail)
          go_wp2
          go_ret3
          refine ⟨?_, below_dn hb4 _⟩
          rw [HE.out]
          show _ = Ending.returned (.tuple #[.int .i64 (d : Nat), .int .u32 ((a - f : Nat) : Int), errB 0])
          rw [EA.out]
          rfl
        · have HE := hide (HF.out.trans (findFrom_bad hin (by simpa using ht)))
          rw [show takesW (widN d) n = false by simpa using ht] at HT
          clear HF ht hin hin' hzl hn hal hk ea
          generalize firstN d = f at *
          generalize sizeN d s = z at *
          generalize widN d = wd at *
          go_wp2_with (first | (go_at_call 23; refine HA.out.mono ?_; rintro e w2 ⟨rfl, hb2⟩; replace hb2 := below_bl rfl hB hb2) | (go_at_call 24; refine (HH.out _ _ _).mono ?_; rintro e w3 ⟨rfl, hb3⟩; have R3 : RowAt w3 w2.heap.size #[.int .u32 (f : Nat), .int .u32 (z : Nat), .int .i64 (wd : Nat)] 63 := (RowAt.new w2 _ _ _ rfl).bl hb3; have k0 : w3.cell? ⟨w2.heap.size, 0, none⟩ = some (.int .u32 (f : Nat)) := R3.cell 0; have k1 : w3.cell? ⟨w2.heap.size, 1, none⟩ = some (.int .u32 (z : Nat)) := R3.cell 1; have k2 : w3.cell? ⟨w2.heap.size, 2, none⟩ = some (.int .i64 (wd : Nat)) := R3.cell 2; clear R3; replace hb3 := below_bl rfl (hb2.alloc hb2.size _) hb3) | (go_at_call 25; refine (HT.out _ _ _).mono ?_; rintro e w4 ⟨rfl, hb4⟩; replace k0 := cell_bl hb4 k0; clear k1 k2; replace hb4 := below_bl rfl hb3 hb4))
          go_ret3
          exact ⟨by rw [HE.out]; rfl, hb4⟩
      · have hin' : ¬ (firstN d ≤ a ∧ a - firstN d + n ≤ sizeN d s) := fun h => hin (decide_eq_true h)
        have HE := hide (HF.out.trans (findFrom_no (k := 8 - (d + 1)) (by simpa using hin)))
        clear HF
        by_cases hf : firstN d ≤ a
        · have hz : ¬ (a - firstN d + n ≤ sizeN d s) := fun h => hin' ⟨hf, h⟩
          have HH := hide (fun (f wd : Int) => holds_any f (sizeN d s) hzl wd (a - firstN d) (by omega) n hn4)
          rw [show decide (a - firstN d + n ≤ sizeN d s) = false by simpa using hz] at HH
          have ea : ((a - firstN d : Nat) : Int) = (a : Int) - (firstN d : Nat) := by omega
          have tf : ¬ a < firstN d := by omega
          rw [ea] at HH
          clear hin hin' hz hzl hn hal hk ea
          generalize firstN d = f at *
          generalize sizeN d s = z at *
          generalize widN d = wd at *
          go_wp2_with (first | (go_at_call 23; refine HA.out.mono ?_; rintro e w2 ⟨rfl, hb2⟩; replace hb2 := below_bl rfl hB hb2) | (go_at_call 24; refine (HH.out _ _ _).mono ?_; rintro e w3 ⟨rfl, hb3⟩; have R3 : RowAt w3 w2.heap.size #[.int .u32 (f : Nat), .int .u32 (z : Nat), .int .i64 (wd : Nat)] 63 := (RowAt.new w2 _ _ _ rfl).bl hb3; have k0 : w3.cell? ⟨w2.heap.size, 0, none⟩ = some (.int .u32 (f : Nat)) := R3.cell 0; have k1 : w3.cell? ⟨w2.heap.size, 1, none⟩ = some (.int .u32 (z : Nat)) := R3.cell 1; have k2 : w3.cell? ⟨w2.heap.size, 2, none⟩ = some (.int .i64 (wd : Nat)) := R3.cell 2; clear R3; replace hb3 := below_bl rfl (hb2.alloc hb2.size _) hb3) | (go_at_call 25; refine (HT.out _ _ _).mono ?_; rintro e w4 ⟨rfl, hb4⟩; replace k0 := cell_bl hb4 k0; clear k1 k2; replace hb4 := below_bl rfl hb3 hb4))
          go_roundw
          case rel => exact ⟨d + 1, by omega, by omega, by go_num, HE.out, hb3⟩
          case measure => simp [intOf]; omega
        · have tf : a < firstN d := by omega
          clear hin hin' hzl hn hal hk hf
          generalize firstN d = f at *
          generalize sizeN d s = z at *
          generalize widN d = wd at *
          go_wp2_with (first | (go_at_call 23; refine HA.out.mono ?_; rintro e w2 ⟨rfl, hb2⟩; replace hb2 := below_bl rfl hB hb2) | (go_at_call 24; refine (HH.out _ _ _).mono ?_; rintro e w3 ⟨rfl, hb3⟩; have R3 : RowAt w3 w2.heap.size #[.int .u32 (f : Nat), .int .u32 (z : Nat), .int .i64 (wd : Nat)] 63 := (RowAt.new w2 _ _ _ rfl).bl hb3; have k0 : w3.cell? ⟨w2.heap.size, 0, none⟩ = some (.int .u32 (f : Nat)) := R3.cell 0; have k1 : w3.cell? ⟨w2.heap.size, 1, none⟩ = some (.int .u32 (z : Nat)) := R3.cell 1; have k2 : w3.cell? ⟨w2.heap.size, 2, none⟩ = some (.int .i64 (wd : Nat)) := R3.cell 2; clear R3; replace hb3 := below_bl rfl (hb2.alloc hb2.size _) hb3) | (go_at_call 25; refine (HT.out _ _ _).mono ?_; rintro e w4 ⟨rfl, hb4⟩; replace k0 := cell_bl hb4 k0; clear k1 k2; replace hb4 := below_bl rfl hb3 hb4))
          go_roundw
          case rel => exact ⟨d + 1, by omega, by omega, by go_num, HE.out, hb2.alloc hb2.size _⟩
          case measure => simp [intOf]; omega

set_option maxHeartbeats 400000 in
theorem find_any (s a : Nat) (n : Int) (hs : s < 4294967296) (ha : a < 4294967296) (w : World) (hA : AreasAt w) :
    Calls Tryd.prog 8 #[.int .u32 s, .int .u32 a, .int .i64 n] w fun e w' => e = .returned (fndV (findV s a n)) ∧ Below w.heap.size w w' := by
  by_cases hw : isW n = true
  · have hn : n = 1 ∨ n = 2 ∨ n = 4 := of_decide_eq_true hw
    obtain ⟨k, rfl⟩ := Int.eq_ofNat_of_zero_le (show 0 ≤ n by omega)
    unfold findV
    rw [if_pos hw, Int.toNat_natCast]
    by_cases hal : a % k = 0
    · rw [if_pos hal]
      exact find_loop s a k hs ha (by omega) hal w hA
    · rw [if_neg hal]
      have HW := hide (isWidth_any k)
      rw [hw] at HW
      have hn0 : (k : Int) ≠ 0 := by omega
      have hn4 : k ≤ 4 := by omega
      have hal' : ((a : Int) % (k : Int) != 0) = true := by
        have : ¬ (a : Int) % (k : Int) = 0 := by omega
        simp [this]
      clear hA hw hn hal
      go_enter Tryd.func8, Tryd.ntmps8
      go_wp2_with (go_at_call 22; refine (HW.out _).mono ?_; rintro e w1 ⟨rfl, rfl⟩)
      go_ret3
      exact ⟨rfl, Below.refl _ _⟩
  · have HW := hide (isWidth_any n)
    have hw' : isW n = false := by simpa using hw
    unfold findV
    rw [if_neg hw]
    rw [hw'] at HW
    clear hw hw'
    go_enter Tryd.func8, Tryd.ntmps8
    go_wp2_with (go_at_call 22; refine (HW.out _).mono ?_; rintro e w1 ⟨rfl, rfl⟩)
    go_ret3
    exact ⟨rfl, Below.refl _ _⟩
end Go.Proofs.YtcjfjkkkepjpmaaDoor
