/-
  What asm.isMark answers, whatever rune it is asked.
-/
import Derived.Test.YtoekcfbjdcibpaaGreatDoorAsTextW
import Derived.Test.YtoekcfbjdcibpaaGreatDoorShelf2
import Derived.Test.YtoekcfbjdcibpaaGreatDoorAsDec
import Derived.Lib.OthersKept
import Derived.Deep.QuietTactic
import Derived.BigQuiet
import Derived.WalkMore
namespace Go.Proofs.YtoekcfbjdcibpaaGreatDoor
open Go.RowKit
set_option linter.unusedVariables false

def marks : ByteArray := ⟨#[32, 44, 40, 41]⟩

theorem marks_index : ∀ x : Fin 128, Lib.indexByte marks.data.toList (((x.val : Nat) : Int).toNat.toUInt8) = (if x.val = 32 then 0 else if x.val = 44 then 1 else if x.val = 40 then 2 else if x.val = 41 then 3 else -1 : Int) := by decide +kernel

set_option maxHeartbeats 2000000 in
set_option maxRecDepth 100000 in
theorem rune_bad (r : Int) (h0 : ¬ r < 128) (h3 : ¬ r = 65533) (h1 : Lib.validRune r = false) (w : World) :
    Calls Tryz.prog 121 #[.string marks, .int .i32 r] w fun e w' => e = .returned (.int .i64 (-1)) ∧ Below w.heap.size w w' := by
  have HV := hide (Tryz.utf8_ValidRune r)
  rw [h1] at HV
  clear h1
  generalize marks = M
  go_enter Tryz.func121, Tryz.ntmps121
  go_wp2_with (go_at_call 142; refine (HV.out _).mono ?_; rintro e w2 ⟨rfl, rfl⟩)
  go_ret
  exact ⟨rfl, Below.refl _ _⟩

theorem marks_no (c : UInt8) (hc : 128 ≤ c.toNat) (n : Nat) : Lib.indexByte (marks.extract n 4).data.toList c = -1 := by
  refine indexByte_no c _ fun x hx e => ?_
  subst e
  have : ∀ y ∈ marks.data.toList, y.toNat < 128 := by decide +kernel
  have hm : x ∈ marks.data.toList := by
    rw [ByteArray.data_extract, Array.toList_extract] at hx
    exact List.mem_of_mem_drop (List.mem_of_mem_take (by simpa [List.extract] using hx))
  have := this x hm
  omega

set_option maxHeartbeats 2000000 in
set_option maxRecDepth 100000 in
theorem rune_far_at (r : Int) (E : ByteArray) (hE : Utf8.encode r = E) (n : Nat) (hn : n = 1 ∨ n = 2 ∨ n = 3) (hs : E.size = n + 1) (hc : 128 ≤ (E[n]'(by omega)).toNat) (h0 : ¬ r < 128) (h3 : ¬ r = 65533) (h1 : Lib.validRune r = true) (w : World) :
    Calls Tryz.prog 121 #[.string marks, .int .i32 r] w fun e w' => e = .returned (.int .i64 (-1)) ∧ Below w.heap.size w w' := by
  have HV := hide (Tryz.utf8_ValidRune r)
  rw [h1] at HV
  clear h1
  have HIB := hide (fun w => Tryz.strings_IndexByte (marks.extract (n + 1) 4) (((E[n]'(by omega)).toNat : Nat) : Int) w)
  rw [show ((((E[n]'(by omega)).toNat : Nat) : Int)).toNat.toUInt8 = E[n]'(by omega) by simp, marks_no _ hc] at HIB
  have hms : marks.size = 4 := rfl
  rcases hn with rfl | rfl | rfl
  · simp only [Nat.reduceAdd] at HIB
    go_enter Tryz.func121, Tryz.ntmps121
    go_wp2_with (go_at_call 142; refine (HV.out _).mono ?_; rintro e w2 ⟨rfl, rfl⟩)
    go_step3
    go_wp2
    go_loopw [9] (fun iv wr => iv = .int .i64 1 ∧ wr = w2) (fun iv wr => 0)
    case atStart => exact ⟨rfl, rfl⟩
    case round =>
      obtain ⟨rfl, rfl⟩ := hrel
      have h1 : ¬ (((marks[1]'(by decide)).toNat : Int) = ((E[1]'(by omega)).toNat : Int)) := by have : (marks[1]'(by decide)).toNat = 44 := rfl; omega
      have hw2 : IntKind.i64.wrap 2 = 2 := rfl
      go_wp2
      go_step3
      go_wp2
      go_quiet (fail)
      go_wp2
      have hbW := below_drewS wr nq
      generalize wr.drewN nq = W at *
      go_quiet (first | (go_at_call 109; refine Calls.quiet_of_same (HIB.out _)))
      go_wp2
      rw [Exit.noGoto_ret]
      go_wp2
      rw [Exit.noGoto_ret]
      go_wp2
      go_ret
      exact ⟨rfl, hbW.trans ((below_drewS W _).mono hbW.size)⟩
  · simp only [Nat.reduceAdd] at HIB
    go_enter Tryz.func121, Tryz.ntmps121
    go_wp2_with (go_at_call 142; refine (HV.out _).mono ?_; rintro e w2 ⟨rfl, rfl⟩)
    go_step3
    go_wp2
    go_loopw [9] (fun iv wr => iv = .int .i64 2 ∧ wr = w2) (fun iv wr => 0)
    case atStart => exact ⟨rfl, rfl⟩
    case round =>
      obtain ⟨rfl, rfl⟩ := hrel
      have h1 : ¬ (((marks[2]'(by decide)).toNat : Int) = ((E[2]'(by omega)).toNat : Int)) := by have : (marks[2]'(by decide)).toNat = 40 := rfl; omega
      have hw2 : IntKind.i64.wrap 3 = 3 := rfl
      go_wp2
      go_step3
      go_wp2
      go_quiet (fail)
      go_wp2
      have hbW := below_drewS wr nq
      generalize wr.drewN nq = W at *
      go_quiet (first | (go_at_call 109; refine Calls.quiet_of_same (HIB.out _)))
      go_wp2
      rw [Exit.noGoto_ret]
      go_wp2
      rw [Exit.noGoto_ret]
      go_wp2
      go_ret
      exact ⟨rfl, hbW.trans ((below_drewS W _).mono hbW.size)⟩
  · simp only [Nat.reduceAdd] at HIB
    go_enter Tryz.func121, Tryz.ntmps121
    go_wp2_with (go_at_call 142; refine (HV.out _).mono ?_; rintro e w2 ⟨rfl, rfl⟩)
    go_step3
    go_wp2
    go_loopw [9] (fun iv wr => iv = .int .i64 3 ∧ wr = w2) (fun iv wr => 0)
    case atStart => exact ⟨rfl, rfl⟩
    case round =>
      obtain ⟨rfl, rfl⟩ := hrel
      have h1 : ¬ (((marks[3]'(by decide)).toNat : Int) = ((E[3]'(by omega)).toNat : Int)) := by have : (marks[3]'(by decide)).toNat = 41 := rfl; omega
      have hw2 : IntKind.i64.wrap 4 = 4 := rfl
      go_wp2
      go_step3
      go_wp2
      go_quiet (fail)
      go_wp2
      have hbW := below_drewS wr nq
      generalize wr.drewN nq = W at *
      go_quiet (first | (go_at_call 109; refine Calls.quiet_of_same (HIB.out _)))
      go_wp2
      rw [Exit.noGoto_ret]
      go_wp2
      rw [Exit.noGoto_ret]
      go_wp2
      go_ret
      exact ⟨rfl, hbW.trans ((below_drewS W _).mono hbW.size)⟩

set_option maxHeartbeats 2000000 in
set_option maxRecDepth 100000 in
theorem rune_err (w : World) :
    Calls Tryz.prog 121 #[.string marks, .int .i32 65533] w fun e w' => e = .returned (.int .i64 (-1)) ∧ Below w.heap.size w w' := by
  go_enter Tryz.func121, Tryz.ntmps121
  go_wp2
  go_loopw [] (fun wr => ∃ pos : Nat, pos ≤ 4 ∧ wr.heap[w.heap.size]? = some (.stringIter marks pos) ∧ Below w.heap.size w wr) (fun wr => 4 - wr.iterPos w.heap.size)
  case atStart => exact ⟨0, by omega, by simpa using World.iter_heap w marks 0, below_box w _⟩
  case round =>
    obtain ⟨pos, hp, hit, hb⟩ := hrel
    by_cases hlt : pos < 4
    · have hnx : ∀ ty, (Instr.next (.pointer (some ⟨w.heap.size, 0, none⟩)) true ty).run Tryz.prog wr = _ := fun ty => Lib.run_next_any_at wr w.heap.size marks pos ty hit hlt
      obtain ⟨c, hc, hd⟩ : ∃ c : Nat, c < 128 ∧ Utf8.decode marks pos = (c, 1) := by
        rcases (by omega : pos = 0 ∨ pos = 1 ∨ pos = 2 ∨ pos = 3) with rfl | rfl | rfl | rfl
        · exact ⟨32, by decide, by decide +kernel⟩
        · exact ⟨44, by decide, by decide +kernel⟩
        · exact ⟨40, by decide, by decide +kernel⟩
        · exact ⟨41, by decide, by decide +kernel⟩
      rw [hd] at hnx
      have hne : ¬ (c : Int) = 65533 := by omega
      have hit2 := Lib.iterAt_heap wr w.heap.size marks pos (pos + 1) hit
      have hb2 := Lib.below_iterAt hb (k := w.heap.size) (Nat.le_refl _) marks (pos + 1)
      have HR := hide (And.intro hit2 hb2)
      clear hit2 hb2
      go_wp2
      go_roundw
      case rel => exact ⟨pos + 1, by omega, HR.out.1, HR.out.2⟩
      case measure => simp only [World.iterPos, HR.out.1, hit]; omega
    · have hnx : ∀ ty, (Instr.next (.pointer (some ⟨w.heap.size, 0, none⟩)) true ty).run Tryz.prog wr = _ := fun ty => Lib.run_next_end_at wr w.heap.size marks pos ty hit hlt
      go_wp2
      go_ret
      exact ⟨rfl, hb⟩

theorem rune_any (r : Int) (h0 : 128 ≤ r) (h2 : r ≤ 1114111) (w : World) :
    Calls Tryz.prog 121 #[.string marks, .int .i32 r] w fun e w' => e = .returned (.int .i64 (-1)) ∧ Below w.heap.size w w' := by
  by_cases h3 : r = 65533
  · subst h3; exact rune_err w
  · by_cases h1 : Lib.validRune r = true
    · have hv : Utf8.valid r = true := by
        have h1' := h1
        unfold Lib.validRune at h1'
        rw [decide_eq_true_eq] at h1'
        unfold Utf8.valid
        simp only [Bool.or_eq_true, Bool.and_eq_true, decide_eq_true_eq]
        omega
      obtain ⟨e1, e2, e3⟩ := encode_facts r hv h0
      have hs : (Utf8.encode r).size = ((Utf8.encode r).size - 1) + 1 := by omega
      exact rune_far_at r (Utf8.encode r) rfl ((Utf8.encode r).size - 1) (by omega) hs (e3 (by omega)) (by omega) h3 h1 w
    · exact rune_bad r (by omega) h3 (by simpa using h1) w

set_option maxHeartbeats 1000000 in
set_option maxRecDepth 100000 in
theorem isMark_any (x : Nat) (hx : x ≤ 1114111) (w : World) :
    Calls Tryz.prog 66 #[.int .i32 (x : Int)] w fun e w' => e = .returned (.bool (markN x)) ∧ Below w.heap.size w w' := by
  obtain ⟨z, hz, HR⟩ : ∃ z : Int, decide (0 ≤ z) = markN x ∧ Hid (∀ w, Calls Tryz.prog 121 #[.string ⟨#[32, 44, 40, 41]⟩, .int .i32 (x : Int)] w fun e w' => e = .returned (.int .i64 z) ∧ Below w.heap.size w w') := by
    by_cases h : x < 128
    · refine ⟨_, ?_, hide fun w => (Tryz.strings_IndexRune_ascii marks x w (by omega) (by omega)).mono fun e w' ⟨he, hw⟩ => ⟨he, hw ▸ Below.refl _ _⟩⟩
      rw [marks_index ⟨x, h⟩]
      unfold markN
      simp only
      repeat' split
      all_goals simp_all
    · refine ⟨-1, ?_, hide (rune_any x (by omega) (by omega))⟩
      unfold markN
      simp
      omega
  have HC : Hid (∀ w, Calls Tryz.prog 93 #[.string ⟨#[32, 44, 40, 41]⟩, .int .i32 (x : Int)] w fun e w' => e = .returned (.bool (markN x)) ∧ Below w.heap.size w w') := hide fun w => by
    rw [← hz]
    generalize ByteArray.mk #[32, 44, 40, 41] = M at *
    clear hz hx
    go_enter Tryz.func93, Tryz.ntmps93
    go_wp2_with (go_at_call 121; refine (HR.out _).mono ?_; rintro e w2 ⟨rfl, hb2⟩)
    go_ret
    exact ⟨rfl, hb2⟩
  clear HR hz
  generalize hM : ByteArray.mk #[32, 44, 40, 41] = M at *
  go_enter Tryz.func66, Tryz.ntmps66
  go_wp2_with (go_at_call 93; refine (HC.out _).mono ?_; rintro e w2 ⟨rfl, hb2⟩)
  go_ret
  exact ⟨rfl, hb2⟩
end Go.Proofs.YtoekcfbjdcibpaaGreatDoor
