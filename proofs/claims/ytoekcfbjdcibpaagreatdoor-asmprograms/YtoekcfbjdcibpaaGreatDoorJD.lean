/-
  What the document's Find answers.
-/
import Derived.Test.YtoekcfbjdcibpaaGreatDoorInCalls
import Derived.Great.BuildSlice
import Derived.WalkSmall
import Derived.Test.YtoekcfbjdcibpaaGreatDoorInFind
import Derived.Deep.RegionWith
namespace Go.Proofs.YtoekcfbjdcibpaaGreatDoor
open Go.RowKit
set_option linter.unusedVariables false

def namesV : Array Value := (nameL.map fun x => Value.string ⟨x.toArray⟩).toArray
def wordsV : Array Value := (wordL.map fun x : Nat => Value.int .u32 (x : Int)).toArray
theorem namesV_at (op : Nat) (h : op < 57) : namesV[op]? = some (.string (nameN op)) := by
  have h' : op < nameL.length := h
  unfold namesV nameN
  rw [List.getElem?_toArray, List.getElem?_map, List.getElem?_eq_getElem h', List.getD_eq_getElem?_getD, List.getElem?_eq_getElem h']
  rfl
theorem wordsV_at (op : Nat) (h : op < 57) : wordsV[op]? = some (.int .u32 (wordN op : Nat)) := by
  have h' : op < wordL.length := h
  unfold wordsV wordN
  rw [List.getElem?_toArray, List.getElem?_map, List.getElem?_eq_getElem h', List.getD_eq_getElem?_getD, List.getElem?_eq_getElem h']
  rfl

theorem infoStr : (Tryz.prog.info? 9).map (fun i => (i.zero, i.size)) = some (some (.string ⟨#[]⟩), 1) := by kernel_rfl
theorem infoU32 : (Tryz.prog.info? 48).map (fun i => (i.zero, i.size)) = some (some (.int .u32 0), 1) := by kernel_rfl
theorem info2 {P : Program} {t : TypeId} {z : Value} {n : Nat} (h : (P.info? t).map (fun i => (i.zero, i.size)) = some (some z, n)) : ∃ i, P.info? t = some i ∧ i.zero = some z ∧ i.size = n := by
  cases hi : P.info? t with
  | none => rw [hi] at h; cases h
  | some i => rw [hi] at h; simp at h; exact ⟨i, rfl, h.1, h.2⟩

set_option maxHeartbeats 1000000 in
set_option maxRecDepth 100000 in
theorem rname_yes (op : Nat) (hop : op < 57) (w : World) :
    Calls Tryz.prog 28 #[.int .i64 op] w fun e w' => e = .returned (.string (nameN op)) ∧ Below w.heap.size w w' := by
  obtain ⟨ie, hie, hz, hs⟩ := info2 infoStr
  have hc : (w.alloc (.cells namesV 9)).cell? ⟨w.heap.size, op, none⟩ = some (.string (nameN op)) := (cell_of_row _ _ _ _ _ (0, 0) (heap_alloc_new w _)).trans (namesV_at op hop)
  have HZ := hide hz
  have HS := hide hs
  have HI := hide hie
  clear hz hs hie
  generalize nameN op = s at *
  go_enter Tryz.func28, Tryz.ntmps28
  go_wp2_with (first | (refine wpList_buildSlice rfl 51 9 57 _ rfl namesV ie (.string ⟨#[]⟩) Tryz.underlying51 HI.out HZ.out (by rw [HS.out]; decide) (by rw [HS.out]; decide) (by rw [HS.out]; kernel_rfl) ?_))
  go_ret
  exact ⟨rfl, (Below.refl _ w).alloc (Nat.le_refl _) _⟩

set_option maxHeartbeats 1000000 in
theorem rname_no (c : Int) (h : c < 0 ∨ 56 < c) (w : World) :
    Calls Tryz.prog 28 #[.int .i64 c] w fun e w' => e = .returned (.string ⟨#[]⟩) ∧ w' = w := by
  rcases h with h | h
  all_goals
    go_enter Tryz.func28, Tryz.ntmps28
    go_wp2
    go_ret
    exact ⟨rfl, rfl⟩

def kindB : ByteArray := ⟨#[85, 85, 74, 73, 66, 66, 66, 66, 66, 66, 76, 76, 76, 76, 76, 83, 83, 83, 73, 73, 73, 73, 73, 73, 72, 72, 72, 82, 82, 82, 82, 82, 82, 82, 82, 82, 82, 82, 82, 82, 82, 82, 82, 82, 82, 70, 70, 78, 78, 78, 78, 67, 67, 67, 67, 67, 67]⟩
theorem kindB_tab : ∀ op, op < 57 → (kindB.data.toList.getD op 0).toNat = kindN op := by decide +kernel
theorem kindB_at (op : Nat) (h : op < 57) (w : World) : (Instr.index 9 (.string kindB) (.int .i64 op)).run Tryz.prog w = .ok (.int .u8 (kindN op : Nat)) w := by
  rw [run_index_string (h := Tryz.underlying9)]
  have hs : kindB.size = 57 := rfl
  rw [dif_pos (by rw [hs]; omega)]
  congr 2
  have := kindB_tab op h
  have e : (kindB[(op : Int).toNat]'(by rw [hs]; omega)) = kindB.data.toList.getD op 0 := by
    have h' : op < kindB.data.toList.length := h
    rw [List.getD_eq_getElem?_getD, List.getElem?_eq_getElem h']
    rfl
  rw [e, this]

set_option maxHeartbeats 1000000 in
theorem rkind_yes (op : Nat) (hop : op < 57) (w : World) :
    Calls Tryz.prog 29 #[.int .i64 op] w fun e w' => e = .returned (.int .u8 (kindN op : Nat)) ∧ w' = w := by
  have hk := kindB_at op hop
  unfold kindB at hk
  go_enter Tryz.func29, Tryz.ntmps29
  go_wp2
  go_ret
  exact ⟨rfl, rfl⟩

set_option maxHeartbeats 1000000 in
theorem rkind_no (c : Int) (h : c < 0 ∨ 56 < c) (w : World) :
    Calls Tryz.prog 29 #[.int .i64 c] w fun e w' => e = .returned (.int .u8 0) ∧ w' = w := by
  rcases h with h | h
  all_goals
    go_enter Tryz.func29, Tryz.ntmps29
    go_wp2
    go_ret
    exact ⟨rfl, rfl⟩

set_option maxHeartbeats 1000000 in
set_option maxRecDepth 100000 in
theorem rplain_any (op : Nat) (hop : op < 57) (w : World) :
    Calls Tryz.prog 79 #[.int .i64 op] w fun e w' => e = .returned (.int .u32 (wordN op : Nat)) ∧ Below w.heap.size w w' := by
  obtain ⟨ie, hie, hz, hs⟩ := info2 infoU32
  have hc : (w.alloc (.cells wordsV 48)).cell? ⟨w.heap.size, op, none⟩ = some (.int .u32 (wordN op : Nat)) := (cell_of_row _ _ _ _ _ (0, 0) (heap_alloc_new w _)).trans (wordsV_at op hop)
  have HZ := hide hz
  have HS := hide hs
  have HI := hide hie
  clear hz hs hie
  generalize wordN op = s at *
  go_enter Tryz.func79, Tryz.ntmps79
  go_wp2_with (first | (refine wpList_buildSlice rfl 39 48 57 _ rfl wordsV ie (.int .u32 0) Tryz.underlying39 HI.out HZ.out (by rw [HS.out]; decide) (by rw [HS.out]; decide) (by rw [HS.out]; kernel_rfl) ?_))
  go_ret
  exact ⟨rfl, (Below.refl _ w).alloc (Nat.le_refl _) _⟩

end Go.Proofs.YtoekcfbjdcibpaaGreatDoor
namespace Go.Proofs.YtoekcfbjdcibpaaGreatDoor
open Go.RowKit
set_option linter.unusedVariables false

set_option maxHeartbeats 1000000 in
set_option maxRecDepth 100000 in
theorem rfind_hit (name : ByteArray) (op : Nat) (hop : op < 57) (hm : nameN op = name) (hno : ∀ j, j < op → nameN j ≠ name) (w : World) :
    Calls Tryz.prog 37 #[.string name] w fun e w' => e = .returned (.tuple #[.int .i64 op, .int .i64 0]) ∧ Below w.heap.size w w' := by
  have HNO := hide hno
  have HN := hide (fun (j : Nat) (hj : j < 57) => rname_yes j hj)
  clear hno
  go_enter Tryz.func37, Tryz.ntmps37
  go_wp2
  go_loopw [4] (fun iv wr => ∃ j : Nat, j ≤ op ∧ iv = .int .i64 j ∧ Below w.heap.size w wr) (fun iv _ => op - (intOf iv).toNat)
  case atStart => exact ⟨0, by omega, rfl, Below.refl _ _⟩
  case round =>
    obtain ⟨j, hj, rfl, hB⟩ := hrel
    by_cases hlt : j < op
    · have ht := str_ne (HNO.out j hlt)
      clear hm
      have HNj := hide (HN.out j (by omega))
      generalize nameN j = z at *
      go_wp2_with (first | (go_at_call 28; refine (HNj.out _).mono ?_; rintro e w2 ⟨rfl, hb2⟩))
      go_roundw
      case rel => exact ⟨j + 1, by omega, by go_num, hB.trans (hb2.mono hB.size)⟩
      case measure => simp [intOf]; omega
    · obtain rfl : j = op := by omega
      subst hm
      have HNj := hide (HN.out j (by omega))
      generalize nameN j = z at *
      go_wp2_with (first | (go_at_call 28; refine (HNj.out _).mono ?_; rintro e w2 ⟨rfl, hb2⟩))
      go_ret2
      exact ⟨rfl, hB.trans (hb2.mono hB.size)⟩

set_option maxHeartbeats 1000000 in
set_option maxRecDepth 100000 in
theorem rfind_none (name : ByteArray) (hno : ∀ j, j < 57 → nameN j ≠ name) (w : World) :
    Calls Tryz.prog 37 #[.string name] w fun e w' => e = .returned (.tuple #[.int .i64 0, .int .i64 6]) ∧ Below w.heap.size w w' := by
  have HNO := hide hno
  have HN := hide (fun (j : Nat) (hj : j < 57) => rname_yes j hj)
  clear hno
  go_enter Tryz.func37, Tryz.ntmps37
  go_wp2
  go_loopw [4] (fun iv wr => ∃ j : Nat, j ≤ 57 ∧ iv = .int .i64 j ∧ Below w.heap.size w wr) (fun iv _ => 57 - (intOf iv).toNat)
  case atStart => exact ⟨0, by omega, rfl, Below.refl _ _⟩
  case round =>
    obtain ⟨j, hj, rfl, hB⟩ := hrel
    by_cases hlt : j < 57
    · have ht := str_ne (HNO.out j hlt)
      have HNj := hide (HN.out j (by omega))
      generalize nameN j = z at *
      go_wp2_with (first | (go_at_call 28; refine (HNj.out _).mono ?_; rintro e w2 ⟨rfl, hb2⟩))
      go_roundw
      case rel => exact ⟨j + 1, by omega, by go_num, hB.trans (hb2.mono hB.size)⟩
      case measure => simp [intOf]; omega
    · obtain rfl : j = 57 := by omega
      go_wp2
      go_ret2
      exact ⟨rfl, hB⟩
end Go.Proofs.YtoekcfbjdcibpaaGreatDoor
