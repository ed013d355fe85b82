/-
  The law's sure.
-/
import Derived.Test.YtalcgipcephnnaaDoorJDmTick
import Derived.Laws.BytesArg
import Derived.Lib.SlBytesConst
namespace Go.Proofs.YtalcgipcephnnaaDoor
open Go.RowKit
set_option linter.unusedVariables false
set_option linter.unusedSimpArgs false

attribute [local go_sem] E.at0 E.at1 E.at2 E.at3 E.at4 E.at5 E.at6 E.at7 E.at8 E.at9 E.at10
def sF0 : Nat → Nat := fun _ => 0
def sF1 : Nat → Nat := wroteF sF0 0 (numB 2147483904 4)
def sF2 : Nat → Nat := wroteF sF1 4 (numB 2147484160 4)
def sF3 : Nat → Nat := wroteF sF2 8 (numB 3 4)
def sF4 : Nat → Nat := wroteF sF3 256 [97, 98, 99]
def sE0 : E := { zeroE with hd := 2147483648 }
def sE1 : E := { zeroE with cd := 1, hd := 2147483648, pl := 2147483648 }
def sE2 : E := ⟨1, 2147483648, 2147483648, 1, 0, true, 2147483904, 2147484160, 3, 0, false⟩
def sE3 : E := ⟨2, 2147483648, 2147483648, 1, 3, false, 0, 0, 0, 0, true⟩
theorem s_write : writeE sE0 0 1 = sE1 := by kernel_rfl
theorem s_acc : accE sE0 0 = 0 := by kernel_rfl
theorem s_t1 : tickE sE1 sF4 1 = sE2 := by kernel_rfl
theorem s_t1f : tickF sE1 sF4 1 = sF4 := by kernel_rfl
theorem s_t2 : tickE sE2 sF4 1 = sE3 := by kernel_rfl
def sF5 : Nat → Nat := tickF sE2 sF4 1
theorem s_read (j : Nat) (hj : j < 3) : sF5 (512 + j) = 97 + j := by
  rcases j with _ | _ | _ | j
  all_goals first | omega | kernel_rfl
theorem sE1_ok : sE1.Ok := ⟨by decide, by decide, by decide, by decide, by decide, by decide, by decide, by decide, by decide⟩
theorem sE2_ok : sE2.Ok := ⟨by decide, by decide, by decide, by decide, by decide, by decide, by decide, by decide, by decide⟩
theorem s_c0 : sE3.cells[0]? = some (.int .u32 2) := rfl
theorem s_c4 : sE3.cells[4]? = some (.int .u32 3) := rfl
theorem s_c10 : sE3.cells[10]? = some (.bool true) := rfl
theorem abc_src (W : World) (j : Nat) (v : Value) (hv : (byteV [97, 98, 99])[j]? = some v) : (W.alloc (.cells #[.int .u8 97, .int .u8 98, .int .u8 99] 5 (3, 4))).cell? ⟨W.heap.size, 0 + j, none⟩ = some v := by
  rw [Nat.zero_add]
  have e : (W.alloc (.cells #[.int .u8 97, .int .u8 98, .int .u8 99] 5 (3, 4))).heap[W.heap.size]? = some (.cells #[.int .u8 97, .int .u8 98, .int .u8 99] 5 (3, 4)) := by (show (W.heap.push _)[W.heap.size]? = _; simp)
  rw [cell_of_row _ _ _ _ _ (3, 4) e]
  rcases j with _ | _ | _ | j
  all_goals first | exact hv | (simp [byteV] at hv)
theorem abc_conv {W : World} {g : Nat} (h : HoldsAt W g 3 5 (fun j => .int .u8 (sF5 (512 + j) : Nat))) : (convert 43 9 (.slice (some ⟨g, 0, none⟩) 3 3)).run Tryd.prog W = .ok (.string ⟨#[97, 98, 99]⟩) W := by
  have k := conv_row (w := W) (g := g) (o := 0) (l := 3) (c := 3) (f := fun j => (97 + j) % 256) (fun j => Nat.mod_lt _ (by decide)) (fun j hj => by
    rw [Nat.zero_add, h.cell hj]
    show some (Value.int .u8 ((sF5 (512 + j) : Nat) : Int)) = _
    rw [s_read j hj, show (97 + j) % 256 = 97 + j by omega])
  exact k
set_option maxRecDepth 20000 in
set_option maxHeartbeats 2000000 in
theorem sure_any (w : World) (hA : AreasAt w) : Calls Tryd.prog 16 #[] w fun e w' => e = .returned (.bool true) ∧ Below w.heap.size w w' := by
  have HN := hide (new_b 1 (by decide) (by decide) w)
  obtain ⟨B, hBe⟩ : ∃ B, w.heap.size = B := ⟨_, rfl⟩
  have hG : 1 < B := hBe ▸ hA.lt
  rw [hBe] at HN
  rw [show (fun _ => 0 : Nat → Nat) = sF0 from rfl] at HN
  have HS0 : Hid (∀ W O1 b, RamB W B b 1 sF0 0 O1 → Calls Tryd.prog 24 #[.pointer (some ⟨b, 0, none⟩), .int .u32 0, .int .i64 4, .int .u32 2147483904] W fun e w' => e = .returned .nilIface ∧ ∃ O', RamB w' B b 1 sF1 1 O' ∧ Went B O1 O' W w') := hide (fun W O1 b hM => store_b hM 0 4 (by decide) (by decide) (by decide) (by decide) 2147483904 (by decide) (by decide))
  have HS1 : Hid (∀ W O1 b, RamB W B b 1 sF1 1 O1 → Calls Tryd.prog 24 #[.pointer (some ⟨b, 0, none⟩), .int .u32 4, .int .i64 4, .int .u32 2147484160] W fun e w' => e = .returned .nilIface ∧ ∃ O', RamB w' B b 1 sF2 2 O' ∧ Went B O1 O' W w') := hide (fun W O1 b hM => store_b hM 4 4 (by decide) (by decide) (by decide) (by decide) 2147484160 (by decide) (by decide))
  have HS2 : Hid (∀ W O1 b, RamB W B b 1 sF2 2 O1 → Calls Tryd.prog 24 #[.pointer (some ⟨b, 0, none⟩), .int .u32 8, .int .i64 4, .int .u32 3] W fun e w' => e = .returned .nilIface ∧ ∃ O', RamB w' B b 1 sF3 3 O' ∧ Went B O1 O' W w') := hide (fun W O1 b hM => store_b hM 8 4 (by decide) (by decide) (by decide) (by decide) 3 (by decide) (by decide))
  have HWr : Hid (∀ W O1 b g, RamB W B b 1 sF3 3 O1 → g < W.heap.size → ¬ O1 g → (∀ j v, (byteV [97, 98, 99])[j]? = some v → W.cell? ⟨g, 0 + j, none⟩ = some v) → Calls Tryd.prog 31 #[.pointer (some ⟨b, 0, none⟩), .int .u32 256, .slice (some ⟨g, 0, none⟩) 3 3] W fun e w' => e = .returned .nilIface ∧ ∃ O', RamB w' B b 1 sF4 4 O' ∧ Went B O1 O' W w') :=
    hide (fun W O1 b g hM hg hn hc => write_b hM 256 (by decide) [97, 98, 99] (by decide) 3 rfl (by decide) (by decide) g 0 3 (Nat.le_refl _) hc hg hn (by decide))
  have HDW : Hid (∀ W, AreasAt W → Calls Tryd.prog 11 #[.agg sE0.cells, .int .u32 0, .int .u32 1] W fun e w' => e = .returned (.tuple #[.agg sE1.cells, .nilIface]) ∧ Below W.heap.size W w') := hide (fun W hA => by
    have h := ewrite_any sE0 0 1 (by decide) W hA
    rw [s_write, s_acc] at h
    exact h)
  have HT1 : Hid (∀ W O1 b, RamB W B b 1 sF4 4 O1 → AreasAt W → Calls Tryd.prog 18 #[.agg sE1.cells, .pointer (some ⟨b, 0, none⟩)] W fun e w' => e = .returned (.agg sE2.cells) ∧ ∃ O', RamB w' B b 1 sF4 5 O' ∧ Went B O1 O' W w') := hide (fun W O1 b hM hA => by
    have h := etick_any sE1 sE1_ok hM hA hG (by decide)
    rw [s_t1, s_t1f] at h
    exact h)
  have HT2 : Hid (∀ W O1 b, RamB W B b 1 sF4 5 O1 → AreasAt W → Calls Tryd.prog 18 #[.agg sE2.cells, .pointer (some ⟨b, 0, none⟩)] W fun e w' => e = .returned (.agg sE3.cells) ∧ ∃ O', RamB w' B b 1 sF5 6 O' ∧ Went B O1 O' W w') := hide (fun W O1 b hM hA => by
    have h := etick_any sE2 sE2_ok hM hA hG (by decide)
    rw [s_t2] at h
    exact h)
  have HRd : Hid (∀ W O1 b, RamB W B b 1 sF5 6 O1 → Calls Tryd.prog 20 #[.pointer (some ⟨b, 0, none⟩), .int .u32 512, .int .i64 3] W fun e w' => e = .returned (.tuple #[.slice (some ⟨W.heap.size, 0, none⟩) 3 3, .nilIface]) ∧ HoldsAt w' W.heap.size 3 5 (fun j => .int .u8 (sF5 (512 + j) : Nat)) ∧ ∃ O', RamB w' B b 1 sF5 6 O' ∧ Went B O1 O' W w' ∧ ¬ O' W.heap.size) := hide (fun W O1 b hM => read_b hM 512 (by decide) 3 (by decide) (by decide))
  have kc := fun (w : World) (C : Array Value) (n c : Nat) => Lib.run_convert_bytes_const (P := Tryd.prog) w 43 5 C n c Tryd.underlying43 Tryd.underlying5
  have hA0 := hA
  clear hA
  go_enter Tryd.func16, Tryd.ntmps16
  go_wp2_with (first | (go_at_call 23; refine HN.out.mono ?_; rintro e W ⟨b, O1, rfl, hM, hb⟩; have hA := hA0.bl (hBe ▸ hb)) | (go_at_call 24; (with_reducible refine (HS0.out _ _ _ hM).mono ?_); rintro e W ⟨rfl, O1, hM2, hW2⟩; replace hb := hb.trans hW2.below; replace hA := hA.went hG hW2; replace hM := hM2; clear hM2 hW2) | (go_at_call 24; (with_reducible refine (HS1.out _ _ _ hM).mono ?_); rintro e W ⟨rfl, O1, hM2, hW2⟩; replace hb := hb.trans hW2.below; replace hA := hA.went hG hW2; replace hM := hM2; clear hM2 hW2) | (go_at_call 24; (with_reducible refine (HS2.out _ _ _ hM).mono ?_); rintro e W ⟨rfl, O1, hM2, hW2⟩; replace hb := hb.trans hW2.below; replace hA := hA.went hG hW2; replace hM := hM2; clear hM2 hW2) | (go_at_call 31; (with_reducible refine (HWr.out _ _ _ _ (hM.bl (below_one _ _)) ?_ ?_ ?_).mono ?_); (simp); exact (hM.far 1).at 0 (by decide); (exact abc_src _); rintro e W2 ⟨rfl, O1, hM2, hW2⟩; replace hW2 := (Went.of (below_one W _) hM.base).trans hW2; replace hb := hb.trans hW2.below; replace hA := hA.went hG hW2; replace hM := hM2; clear hM2 hW2) | (go_at_call 11; (refine (HDW.out _ hA).mono ?_); rintro e W ⟨rfl, hbc⟩; replace hb := hb.trans (hbc.mono hM.base); replace hA := hA.bl hbc; replace hM := hM.bl hbc; obtain ⟨NX, hNX0⟩ : ∃ n, W.heap.size = n := ⟨_, rfl⟩; have hNX := hide hNX0; have hNB : B ≤ NX := hNX0 ▸ hM.base; have hnx : ¬ O1 NX := (fun e => absurd (hM.lt _ e) (by omega)); clear hNX0) | ((with_reducible refine al_ep NX ?_ ?_); exact hNX.out; intro W hx hb' hz2; replace hb := hb.trans (hb'.mono hNB); replace hA := hA.bl (hNX.out ▸ hb'); replace hM := hM.bl (hNX.out ▸ hb'); clear hb' hz2) | ((with_reducible refine st_ep NX _ sE1 hx ?_ ?_ ?_); exact rfl; exact rfl; intro W hnew hoo; replace hM := hM.only hoo hnx; replace hb := hoo.bel _ _ hNB hb; replace hA := hA.only2 hoo (by omega); replace hx := hnew; clear hnew hoo) | ((with_reducible refine st_ep NX _ sE3 hx ?_ ?_ ?_); exact rfl; exact rfl; intro W hnew hoo; replace hM := hM.only hoo hnx; replace hb := hoo.bel _ _ hNB hb; replace hA := hA.only2 hoo (by omega); replace hx := hnew; clear hnew hoo) | ((with_reducible refine ld_ep NX _ hx ?_ ?_ ?_); exact rfl; exact rfl) | (go_at_call 18; (with_reducible refine (HT1.out _ _ _ hM hA).mono ?_); rintro e W2 ⟨rfl, O2, hM2, hW2⟩; have hlt := hx.lt; replace hx := hW2.row hx hnx; replace hnx := hW2.no hlt hnx; replace hb := hb.trans hW2.below; replace hA := hA.went hG hW2; replace hM := hM2; clear hM2 hW2 hlt) | (go_at_call 18; (with_reducible refine (HT2.out _ _ _ hM hA).mono ?_); rintro e W2 ⟨rfl, O2, hM2, hW2⟩; have hlt := hx.lt; replace hx := hW2.row hx hnx; replace hnx := hW2.no hlt hnx; replace hb := hb.trans hW2.below; replace hA := hA.went hG hW2; replace hM := hM2; clear hM2 hW2 hlt) | (go_at_call 20; (with_reducible refine (HRd.out _ _ _ hM).mono ?_); rintro e W2 ⟨rfl, hH, O2, hM2, hW2, hno⟩; replace hx := hW2.row hx hnx; replace hb := hb.trans hW2.below; have f0 := (hx.cell 0).trans s_c0; have f4 := (hx.cell 4).trans s_c4; have f10 := (hx.cell 10).trans s_c10; have hcv := abc_conv hH; clear hM2 hW2 hno))
  go_ret
  rw [← hBe] at hb
  exact ⟨rfl, hb⟩
end Go.Proofs.YtalcgipcephnnaaDoor
