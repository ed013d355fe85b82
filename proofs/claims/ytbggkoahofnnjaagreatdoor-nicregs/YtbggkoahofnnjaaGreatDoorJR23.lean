/-
  Descriptors that can't be: what is found among those of a chain.
-/
import Derived.Test.YtbggkoahofnnjaaGreatDoorJR22
open Go.Proofs.Tryz
set_option linter.unusedVariables false
set_option linter.unusedSimpArgs false
namespace Go.Proofs.YtbggkoahofnnjaaGreatDoor
open Go.RowKit
set_option maxHeartbeats 4000000
attribute [local go_sem] dsc_at0 dsc_at1 dsc_at2 dsc_at3
def Two (T U : Nat) : Nat → Prop := fun x => x = T ∨ x = U
def oddD (p tot : Nat) (wr : Bool) (g : Nat → Nat) : Bool :=
  (wr && !hasD g 2) || (decide (1048576 < tot + g 2) || (decide (g 1 ≠ 0) || (decide (g 3 % 65536 &&& 4294967292 ≠ 0) || !plB p (g 0) (g 2))))
def oddL (p : Nat) : Nat → Bool → List (Nat → Nat) → Bool
  | _, _, [] => false
  | tot, wr, g :: t => oddD p tot wr g || oddL p (tot + g 2) (hasD g 2) t
theorem size_u64i : (prog.info? 191).map (·.size) = some 1 := by kernel_rfl
variable {ops : Array Oper} {rest : List Oper} {dst : Option Tmp} {ty : TypeId} {pos : String} {after : Array Edge} {a : Act} {w : World} {Q : Exit → Act → World → Prop} {x y : Operand} {b : Nat} {gd : Option (Nat × Bool)}
theorem ld_u64 (b : Nat) (v : Int) (t' : TypeId) (hr : RowAt w b #[.int .u64 v] t') (hx : a.eval x = .pointer (some ⟨b, 0, none⟩)) (hw : Region.wanted ⟨dst, .load 191 x, ty, pos, after, gd⟩ (yielded ops a.tmps) = true)
    (k : wpList prog ops Q rest (a.put dst (.int .u64 v)) w) : wpList prog ops Q (⟨dst, .load 191 x, ty, pos, after, gd⟩ :: rest) a w :=
  op_load_cellg b 0 hx #[.int .u64 v] _ _ hr rfl _ underlying191 rfl hw k
theorem st_u64 (b : Nat) (v n : Int) (t' : TypeId) (hr : RowAt w b #[.int .u64 v] t') (hx : a.eval x = .pointer (some ⟨b, 0, none⟩)) (hy : a.eval y = .int .u64 n)
    (k : ∀ W, RowAt W b #[.int .u64 n] t' → Only b w W → wpList prog ops Q rest (a.put dst undef) W) : wpList prog ops Q (⟨dst, .store 191 x y, ty, pos, after, none⟩ :: rest) a w :=
  op_store_cell b 0 hx _ hy #[.int .u64 v] _ _ hr size_u64i (by show 0 < 1; decide) rfl rfl k
theorem ld_bo1 (b : Nat) (v : Bool) (t' : TypeId) (hr : RowAt w b #[.bool v] t') (hx : a.eval x = .pointer (some ⟨b, 0, none⟩)) (hw : Region.wanted ⟨dst, .load 4 x, ty, pos, after, gd⟩ (yielded ops a.tmps) = true)
    (k : wpList prog ops Q rest (a.put dst (.bool v)) w) : wpList prog ops Q (⟨dst, .load 4 x, ty, pos, after, gd⟩ :: rest) a w :=
  op_load_cellg b 0 hx #[.bool v] _ _ hr rfl _ underlying4 rfl hw k
theorem st_bo1 (b : Nat) (v n : Bool) (t' : TypeId) (hr : RowAt w b #[.bool v] t') (hx : a.eval x = .pointer (some ⟨b, 0, none⟩)) (hy : a.eval y = .bool n)
    (k : ∀ W, RowAt W b #[.bool n] t' → Only b w W → wpList prog ops Q rest (a.put dst undef) W) : wpList prog ops Q (⟨dst, .store 4 x y, ty, pos, after, none⟩ :: rest) a w :=
  op_store_cell b 0 hx _ hy #[.bool v] _ _ hr size_boi (by show 0 < 1; decide) rfl rfl k
theorem ld_pm1 (b : Nat) (v : Option Addr) (t' : TypeId) (hr : RowAt w b #[.pointer v] t') (hx : a.eval x = .pointer (some ⟨b, 0, none⟩)) (hw : Region.wanted ⟨dst, .load 59 x, ty, pos, after, gd⟩ (yielded ops a.tmps) = true)
    (k : wpList prog ops Q rest (a.put dst (.pointer v)) w) : wpList prog ops Q (⟨dst, .load 59 x, ty, pos, after, gd⟩ :: rest) a w :=
  op_load_cellg b 0 hx #[.pointer v] _ _ hr rfl _ underlying59 rfl hw k
theorem ld_dc (b i : Nat) (g : Nat → Nat) (hi : i < 4) (t' : TypeId) (hr : RowAt w b (dscV g) t') (hx : a.eval x = .pointer (some ⟨b, i, none⟩)) (hw : Region.wanted ⟨dst, .load 22 x, ty, pos, after, gd⟩ (yielded ops a.tmps) = true)
    (k : wpList prog ops Q rest (a.put dst (.int .u32 (g i : Nat))) w) : wpList prog ops Q (⟨dst, .load 22 x, ty, pos, after, gd⟩ :: rest) a w :=
  op_load_cellg b i hx (dscV g) _ _ hr (dsc_at g i hi) _ underlying22 rfl hw k
theorem Went.onlyT {B T U g : Nat} {w w1 w2 : World} (h : Went B (Two T U) (Two T U) w w1) (ho : Only g w1 w2) (hg : g = T ∨ g = U ∨ w.heap.size ≤ g) (hB : B ≤ g) : Went B (Two T U) (Two T U) w w2 :=
  ⟨ho.bel _ _ hB h.below, by rw [ho.size]; exact h.size, fun x hx hn => (ho.row x (by rintro rfl; rcases hg with e | e | e; exact hn (.inl e); exact hn (.inr e); omega)).trans (h.other x hx hn), h.own⟩
theorem odd_step (g : Nat → Nat) (hg : ∀ i, g i < 4294967296) (tot : Nat) (wr : Bool) (ht : tot ≤ 4294967296 * 1000) {w : World} {B b p c T U Mb : Nat} {tT tU tM : TypeId} {f : Nat → Nat} {O : Nat → Prop} (hM : RamB w B b p f c O) (hA : AreasAt w) (hG : 2 < B)
    (hT : RowAt w T #[.int .u64 (tot : Nat)] tT) (hU : RowAt w U #[.bool wr] tU) (hP : RowAt w Mb #[.pointer (some ⟨b, 0, none⟩)] tM) (hTU : T ≠ U) (hTM : T ≠ Mb) (hUM : U ≠ Mb) (hBT : B ≤ T) (hBU : B ≤ U) (hnT : ¬ O T) (hnU : ¬ O U) :
    Calls prog 125 #[.agg (dscV g), .pointer (some ⟨T, 0, none⟩), .pointer (some ⟨U, 0, none⟩), .pointer (some ⟨Mb, 0, none⟩)] w fun e w' => e = .returned (.bool (oddD p tot wr g)) ∧ RowAt w' T #[.int .u64 ((tot + g 2 : Nat) : Int)] tT ∧ RowAt w' U #[.bool (hasD g 2)] tU ∧ Went B (Two T U) (Two T U) w w' := by
  have hB0 := hM.base
  have lT := hT.lt
  have lU := hU.lt
  have lM := hP.lt
  have HHS : Hid (∀ W, Calls prog 111 #[.agg (dscV g), .int .u32 2] W fun e w' => e = .returned (.bool (hasD g 2)) ∧ Below W.heap.size W w') := hide (fun W => hasd_any g (hg 3) 2 (by decide) W)
  have HMK : Hid (∀ W, Calls prog 126 #[.agg (dscV g)] W fun e w' => e = .returned (.int .u32 (g 3 % 65536 : Nat)) ∧ Below W.heap.size W w') := hide (fun W => marks_any g (hg 3) W)
  have HIN : Hid (∀ W, RamB W B b p f c O → AreasAt W → Calls prog 115 #[.pointer (some ⟨b, 0, none⟩), .int .u32 (g 0 : Nat), .int .u64 (g 2 : Nat)] W fun e w' => e = .returned (.bool (plB p (g 0) (g 2))) ∧ Below W.heap.size W w') := hide (fun W hM hA => isin_b hM hA (g 0) (g 2) (hg 0) (by have := hg 2; omega))
  have g1 := hg 1
  have g2 := hg 2
  obtain ⟨tg, htg⟩ : ∃ x, tot + g 2 = x := ⟨_, rfl⟩
  have esum : Hid (((tot : Int) + (g 2 : Int)) = (tg : Int)) := hide (by omega)
  have htgl : tg < 18446744073709551616 := by omega
  have emk : bits .andNot .u32 ((g 3 % 65536 : Nat) : Int) 3 = ((g 3 % 65536 &&& 4294967292 : Nat) : Int) := u32_andNot_nat (g 3 % 65536) 3 (by omega) (by decide)
  unfold oddD
  rw [htg]
  clear htg
  obtain ⟨hv, hhv⟩ : ∃ x, hasD g 2 = x := ⟨_, rfl⟩
  obtain ⟨pv, hpv⟩ : ∃ x, plB p (g 0) (g 2) = x := ⟨_, rfl⟩
  obtain ⟨mk, hmk⟩ : ∃ x, g 3 % 65536 = x := ⟨_, rfl⟩
  have hml : mk < 65536 := by omega
  rw [hhv] at HHS ⊢
  rw [hpv] at HIN ⊢
  rw [hmk] at HMK emk ⊢
  obtain ⟨an, han⟩ : ∃ x, mk &&& 4294967292 = x := ⟨_, rfl⟩
  rw [han] at emk ⊢
  clear hhv hpv hmk hg han
  cases wr with
  | true =>
    cases hv with
    | true =>
      by_cases c1 : 1048576 < tg
      · rw [show ((true && !true) || (decide (1048576 < tg) || (decide (g 1 ≠ 0) || (decide (an ≠ 0) || !pv)))) = true by simp [c1]]
        have d1 : (1048576 : Int) < (tg : Int) := by omega
        clear c1
        go_enter func125, ntmps125
        go_wp2_with (first | ((with_reducible refine bx_dp w.heap.size g ?_ ?_ ?_); exact rfl; exact rfl; intro W hr hb hz; have hbc := hb; replace hT := hT.bl hb; replace hU := hU.bl hb; replace hP := hP.bl hb; replace hM := hM.bl hb; replace hA := hA.bl hb; have hW : Went B (Two T U) (Two T U) w W := Went.of hb hB0; have hS : w.heap.size + 1 ≤ W.heap.size := Nat.le_of_eq hz.out.symm; clear hb hz hbc) | ((with_reducible refine ld_u64 T _ _ hT ?_ ?_ ?_); exact rfl; exact rfl) | ((with_reducible refine ld_bo1 U _ _ hU ?_ ?_ ?_); exact rfl; exact rfl) | ((with_reducible refine ld_pm1 Mb _ _ hP ?_ ?_ ?_); exact rfl; exact rfl) | ((with_reducible refine ld_dc w.heap.size 0 g (by decide) _ hr ?_ ?_ ?_); exact rfl; exact rfl) | ((with_reducible refine ld_dc w.heap.size 1 g (by decide) _ hr ?_ ?_ ?_); exact rfl; exact rfl) | ((with_reducible refine ld_dc w.heap.size 2 g (by decide) _ hr ?_ ?_ ?_); exact rfl; exact rfl) | ((with_reducible refine ld_dp w.heap.size g hr ?_ ?_ ?_); exact rfl; exact rfl) | (go_at_call 111; (with_reducible refine (HHS.out _).mono ?_); rintro e W ⟨rfl, hbc⟩; replace hT := hT.bl hbc; replace hU := hU.bl hbc; replace hP := hP.bl hbc; replace hM := hM.bl hbc; replace hA := hA.bl hbc; replace hr := hr.bl hbc; replace hW := hW.bl hbc (by omega); replace hS := Nat.le_trans hS hbc.size; clear hbc) | (go_at_call 126; (with_reducible refine (HMK.out _).mono ?_); rintro e W ⟨rfl, hbc⟩; replace hT := hT.bl hbc; replace hU := hU.bl hbc; replace hP := hP.bl hbc; replace hM := hM.bl hbc; replace hA := hA.bl hbc; replace hr := hr.bl hbc; replace hW := hW.bl hbc (by omega); replace hS := Nat.le_trans hS hbc.size; clear hbc) | (go_at_call 115; (with_reducible refine (HIN.out _ hM hA).mono ?_); rintro e W ⟨rfl, hbc⟩; replace hT := hT.bl hbc; replace hU := hU.bl hbc; replace hP := hP.bl hbc; replace hM := hM.bl hbc; replace hA := hA.bl hbc; replace hr := hr.bl hbc; replace hW := hW.bl hbc (by omega); replace hS := Nat.le_trans hS hbc.size; clear hbc) | ((with_reducible refine st_u64 T _ (tg : Int) _ hT ?_ ?_ ?_); exact rfl; (exact congrArg _ esum.out); intro W hnew ho; replace hU := hU.only ho (by omega); replace hP := hP.only ho (by omega); replace hr := hr.only ho (by omega); replace hM := hM.only ho hnT; replace hA := hA.onlyR ho (by omega); replace hW := hW.onlyT ho (.inl rfl) (by omega); replace hS := (show w.heap.size + 1 ≤ W.heap.size by rw [ho.size]; exact hS); replace hT := hnew; clear hnew ho) | ((with_reducible refine st_bo1 U _ true _ hU ?_ ?_ ?_); exact rfl; exact rfl; intro W hnew ho; replace hT := hT.only ho (by omega); replace hP := hP.only ho (by omega); replace hr := hr.only ho (by omega); replace hM := hM.only ho hnU; replace hA := hA.onlyR ho (by omega); replace hW := hW.onlyT ho (.inr (.inl rfl)) (by omega); replace hS := (show w.heap.size + 1 ≤ W.heap.size by rw [ho.size]; exact hS); replace hU := hnew; clear hnew ho))
        go_ret
        exact ⟨rfl, hT, hU, hW⟩
      · have d1 : decide ((1048576 : Int) < (tg : Int)) = false := by simp; omega
        by_cases c2 : g 1 = 0
        · have d2 : ((((g 1) : Nat) : Int) != 0) = false := by simp [c2]
          by_cases c3 : an = 0
          · have d3 : (((an : Nat) : Int) != 0) = false := by simp [c3]
            rw [show ((true && !true) || (decide (1048576 < tg) || (decide (g 1 ≠ 0) || (decide (an ≠ 0) || !pv)))) = !pv by simp [c1, c2, c3]]
            clear c1 c2 c3
            go_enter func125, ntmps125
            go_wp2_with (first | ((with_reducible refine bx_dp w.heap.size g ?_ ?_ ?_); exact rfl; exact rfl; intro W hr hb hz; have hbc := hb; replace hT := hT.bl hb; replace hU := hU.bl hb; replace hP := hP.bl hb; replace hM := hM.bl hb; replace hA := hA.bl hb; have hW : Went B (Two T U) (Two T U) w W := Went.of hb hB0; have hS : w.heap.size + 1 ≤ W.heap.size := Nat.le_of_eq hz.out.symm; clear hb hz hbc) | ((with_reducible refine ld_u64 T _ _ hT ?_ ?_ ?_); exact rfl; exact rfl) | ((with_reducible refine ld_bo1 U _ _ hU ?_ ?_ ?_); exact rfl; exact rfl) | ((with_reducible refine ld_pm1 Mb _ _ hP ?_ ?_ ?_); exact rfl; exact rfl) | ((with_reducible refine ld_dc w.heap.size 0 g (by decide) _ hr ?_ ?_ ?_); exact rfl; exact rfl) | ((with_reducible refine ld_dc w.heap.size 1 g (by decide) _ hr ?_ ?_ ?_); exact rfl; exact rfl) | ((with_reducible refine ld_dc w.heap.size 2 g (by decide) _ hr ?_ ?_ ?_); exact rfl; exact rfl) | ((with_reducible refine ld_dp w.heap.size g hr ?_ ?_ ?_); exact rfl; exact rfl) | (go_at_call 111; (with_reducible refine (HHS.out _).mono ?_); rintro e W ⟨rfl, hbc⟩; replace hT := hT.bl hbc; replace hU := hU.bl hbc; replace hP := hP.bl hbc; replace hM := hM.bl hbc; replace hA := hA.bl hbc; replace hr := hr.bl hbc; replace hW := hW.bl hbc (by omega); replace hS := Nat.le_trans hS hbc.size; clear hbc) | (go_at_call 126; (with_reducible refine (HMK.out _).mono ?_); rintro e W ⟨rfl, hbc⟩; replace hT := hT.bl hbc; replace hU := hU.bl hbc; replace hP := hP.bl hbc; replace hM := hM.bl hbc; replace hA := hA.bl hbc; replace hr := hr.bl hbc; replace hW := hW.bl hbc (by omega); replace hS := Nat.le_trans hS hbc.size; clear hbc) | (go_at_call 115; (with_reducible refine (HIN.out _ hM hA).mono ?_); rintro e W ⟨rfl, hbc⟩; replace hT := hT.bl hbc; replace hU := hU.bl hbc; replace hP := hP.bl hbc; replace hM := hM.bl hbc; replace hA := hA.bl hbc; replace hr := hr.bl hbc; replace hW := hW.bl hbc (by omega); replace hS := Nat.le_trans hS hbc.size; clear hbc) | ((with_reducible refine st_u64 T _ (tg : Int) _ hT ?_ ?_ ?_); exact rfl; (exact congrArg _ esum.out); intro W hnew ho; replace hU := hU.only ho (by omega); replace hP := hP.only ho (by omega); replace hr := hr.only ho (by omega); replace hM := hM.only ho hnT; replace hA := hA.onlyR ho (by omega); replace hW := hW.onlyT ho (.inl rfl) (by omega); replace hS := (show w.heap.size + 1 ≤ W.heap.size by rw [ho.size]; exact hS); replace hT := hnew; clear hnew ho) | ((with_reducible refine st_bo1 U _ true _ hU ?_ ?_ ?_); exact rfl; exact rfl; intro W hnew ho; replace hT := hT.only ho (by omega); replace hP := hP.only ho (by omega); replace hr := hr.only ho (by omega); replace hM := hM.only ho hnU; replace hA := hA.onlyR ho (by omega); replace hW := hW.onlyT ho (.inr (.inl rfl)) (by omega); replace hS := (show w.heap.size + 1 ≤ W.heap.size by rw [ho.size]; exact hS); replace hU := hnew; clear hnew ho))
            go_ret
            exact ⟨rfl, hT, hU, hW⟩
          · have d3 : (((an : Nat) : Int) != 0) = true := by simp; omega
            rw [show ((true && !true) || (decide (1048576 < tg) || (decide (g 1 ≠ 0) || (decide (an ≠ 0) || !pv)))) = true by simp [c3]]
            clear c1 c2 c3
            go_enter func125, ntmps125
            go_wp2_with (first | ((with_reducible refine bx_dp w.heap.size g ?_ ?_ ?_); exact rfl; exact rfl; intro W hr hb hz; have hbc := hb; replace hT := hT.bl hb; replace hU := hU.bl hb; replace hP := hP.bl hb; replace hM := hM.bl hb; replace hA := hA.bl hb; have hW : Went B (Two T U) (Two T U) w W := Went.of hb hB0; have hS : w.heap.size + 1 ≤ W.heap.size := Nat.le_of_eq hz.out.symm; clear hb hz hbc) | ((with_reducible refine ld_u64 T _ _ hT ?_ ?_ ?_); exact rfl; exact rfl) | ((with_reducible refine ld_bo1 U _ _ hU ?_ ?_ ?_); exact rfl; exact rfl) | ((with_reducible refine ld_pm1 Mb _ _ hP ?_ ?_ ?_); exact rfl; exact rfl) | ((with_reducible refine ld_dc w.heap.size 0 g (by decide) _ hr ?_ ?_ ?_); exact rfl; exact rfl) | ((with_reducible refine ld_dc w.heap.size 1 g (by decide) _ hr ?_ ?_ ?_); exact rfl; exact rfl) | ((with_reducible refine ld_dc w.heap.size 2 g (by decide) _ hr ?_ ?_ ?_); exact rfl; exact rfl) | ((with_reducible refine ld_dp w.heap.size g hr ?_ ?_ ?_); exact rfl; exact rfl) | (go_at_call 111; (with_reducible refine (HHS.out _).mono ?_); rintro e W ⟨rfl, hbc⟩; replace hT := hT.bl hbc; replace hU := hU.bl hbc; replace hP := hP.bl hbc; replace hM := hM.bl hbc; replace hA := hA.bl hbc; replace hr := hr.bl hbc; replace hW := hW.bl hbc (by omega); replace hS := Nat.le_trans hS hbc.size; clear hbc) | (go_at_call 126; (with_reducible refine (HMK.out _).mono ?_); rintro e W ⟨rfl, hbc⟩; replace hT := hT.bl hbc; replace hU := hU.bl hbc; replace hP := hP.bl hbc; replace hM := hM.bl hbc; replace hA := hA.bl hbc; replace hr := hr.bl hbc; replace hW := hW.bl hbc (by omega); replace hS := Nat.le_trans hS hbc.size; clear hbc) | (go_at_call 115; (with_reducible refine (HIN.out _ hM hA).mono ?_); rintro e W ⟨rfl, hbc⟩; replace hT := hT.bl hbc; replace hU := hU.bl hbc; replace hP := hP.bl hbc; replace hM := hM.bl hbc; replace hA := hA.bl hbc; replace hr := hr.bl hbc; replace hW := hW.bl hbc (by omega); replace hS := Nat.le_trans hS hbc.size; clear hbc) | ((with_reducible refine st_u64 T _ (tg : Int) _ hT ?_ ?_ ?_); exact rfl; (exact congrArg _ esum.out); intro W hnew ho; replace hU := hU.only ho (by omega); replace hP := hP.only ho (by omega); replace hr := hr.only ho (by omega); replace hM := hM.only ho hnT; replace hA := hA.onlyR ho (by omega); replace hW := hW.onlyT ho (.inl rfl) (by omega); replace hS := (show w.heap.size + 1 ≤ W.heap.size by rw [ho.size]; exact hS); replace hT := hnew; clear hnew ho) | ((with_reducible refine st_bo1 U _ true _ hU ?_ ?_ ?_); exact rfl; exact rfl; intro W hnew ho; replace hT := hT.only ho (by omega); replace hP := hP.only ho (by omega); replace hr := hr.only ho (by omega); replace hM := hM.only ho hnU; replace hA := hA.onlyR ho (by omega); replace hW := hW.onlyT ho (.inr (.inl rfl)) (by omega); replace hS := (show w.heap.size + 1 ≤ W.heap.size by rw [ho.size]; exact hS); replace hU := hnew; clear hnew ho))
            go_ret
            exact ⟨rfl, hT, hU, hW⟩
        · have d2 : ((((g 1) : Nat) : Int) != 0) = true := by simp; omega
          rw [show ((true && !true) || (decide (1048576 < tg) || (decide (g 1 ≠ 0) || (decide (an ≠ 0) || !pv)))) = true by simp [c2]]
          clear c1 c2
          go_enter func125, ntmps125
          go_wp2_with (first | ((with_reducible refine bx_dp w.heap.size g ?_ ?_ ?_); exact rfl; exact rfl; intro W hr hb hz; have hbc := hb; replace hT := hT.bl hb; replace hU := hU.bl hb; replace hP := hP.bl hb; replace hM := hM.bl hb; replace hA := hA.bl hb; have hW : Went B (Two T U) (Two T U) w W := Went.of hb hB0; have hS : w.heap.size + 1 ≤ W.heap.size := Nat.le_of_eq hz.out.symm; clear hb hz hbc) | ((with_reducible refine ld_u64 T _ _ hT ?_ ?_ ?_); exact rfl; exact rfl) | ((with_reducible refine ld_bo1 U _ _ hU ?_ ?_ ?_); exact rfl; exact rfl) | ((with_reducible refine ld_pm1 Mb _ _ hP ?_ ?_ ?_); exact rfl; exact rfl) | ((with_reducible refine ld_dc w.heap.size 0 g (by decide) _ hr ?_ ?_ ?_); exact rfl; exact rfl) | ((with_reducible refine ld_dc w.heap.size 1 g (by decide) _ hr ?_ ?_ ?_); exact rfl; exact rfl) | ((with_reducible refine ld_dc w.heap.size 2 g (by decide) _ hr ?_ ?_ ?_); exact rfl; exact rfl) | ((with_reducible refine ld_dp w.heap.size g hr ?_ ?_ ?_); exact rfl; exact rfl) | (go_at_call 111; (with_reducible refine (HHS.out _).mono ?_); rintro e W ⟨rfl, hbc⟩; replace hT := hT.bl hbc; replace hU := hU.bl hbc; replace hP := hP.bl hbc; replace hM := hM.bl hbc; replace hA := hA.bl hbc; replace hr := hr.bl hbc; replace hW := hW.bl hbc (by omega); replace hS := Nat.le_trans hS hbc.size; clear hbc) | (go_at_call 126; (with_reducible refine (HMK.out _).mono ?_); rintro e W ⟨rfl, hbc⟩; replace hT := hT.bl hbc; replace hU := hU.bl hbc; replace hP := hP.bl hbc; replace hM := hM.bl hbc; replace hA := hA.bl hbc; replace hr := hr.bl hbc; replace hW := hW.bl hbc (by omega); replace hS := Nat.le_trans hS hbc.size; clear hbc) | (go_at_call 115; (with_reducible refine (HIN.out _ hM hA).mono ?_); rintro e W ⟨rfl, hbc⟩; replace hT := hT.bl hbc; replace hU := hU.bl hbc; replace hP := hP.bl hbc; replace hM := hM.bl hbc; replace hA := hA.bl hbc; replace hr := hr.bl hbc; replace hW := hW.bl hbc (by omega); replace hS := Nat.le_trans hS hbc.size; clear hbc) | ((with_reducible refine st_u64 T _ (tg : Int) _ hT ?_ ?_ ?_); exact rfl; (exact congrArg _ esum.out); intro W hnew ho; replace hU := hU.only ho (by omega); replace hP := hP.only ho (by omega); replace hr := hr.only ho (by omega); replace hM := hM.only ho hnT; replace hA := hA.onlyR ho (by omega); replace hW := hW.onlyT ho (.inl rfl) (by omega); replace hS := (show w.heap.size + 1 ≤ W.heap.size by rw [ho.size]; exact hS); replace hT := hnew; clear hnew ho) | ((with_reducible refine st_bo1 U _ true _ hU ?_ ?_ ?_); exact rfl; exact rfl; intro W hnew ho; replace hT := hT.only ho (by omega); replace hP := hP.only ho (by omega); replace hr := hr.only ho (by omega); replace hM := hM.only ho hnU; replace hA := hA.onlyR ho (by omega); replace hW := hW.onlyT ho (.inr (.inl rfl)) (by omega); replace hS := (show w.heap.size + 1 ≤ W.heap.size by rw [ho.size]; exact hS); replace hU := hnew; clear hnew ho))
          go_ret
          exact ⟨rfl, hT, hU, hW⟩
    | false =>
      rw [show ((true && !false) || (decide (1048576 < tg) || (decide (g 1 ≠ 0) || (decide (an ≠ 0) || !pv)))) = true from rfl]
      go_enter func125, ntmps125
      go_wp2_with (first | ((with_reducible refine bx_dp w.heap.size g ?_ ?_ ?_); exact rfl; exact rfl; intro W hr hb hz; have hbc := hb; replace hT := hT.bl hb; replace hU := hU.bl hb; replace hP := hP.bl hb; replace hM := hM.bl hb; replace hA := hA.bl hb; have hW : Went B (Two T U) (Two T U) w W := Went.of hb hB0; have hS : w.heap.size + 1 ≤ W.heap.size := Nat.le_of_eq hz.out.symm; clear hb hz hbc) | ((with_reducible refine ld_u64 T _ _ hT ?_ ?_ ?_); exact rfl; exact rfl) | ((with_reducible refine ld_bo1 U _ _ hU ?_ ?_ ?_); exact rfl; exact rfl) | ((with_reducible refine ld_pm1 Mb _ _ hP ?_ ?_ ?_); exact rfl; exact rfl) | ((with_reducible refine ld_dc w.heap.size 0 g (by decide) _ hr ?_ ?_ ?_); exact rfl; exact rfl) | ((with_reducible refine ld_dc w.heap.size 1 g (by decide) _ hr ?_ ?_ ?_); exact rfl; exact rfl) | ((with_reducible refine ld_dc w.heap.size 2 g (by decide) _ hr ?_ ?_ ?_); exact rfl; exact rfl) | ((with_reducible refine ld_dp w.heap.size g hr ?_ ?_ ?_); exact rfl; exact rfl) | (go_at_call 111; (with_reducible refine (HHS.out _).mono ?_); rintro e W ⟨rfl, hbc⟩; replace hT := hT.bl hbc; replace hU := hU.bl hbc; replace hP := hP.bl hbc; replace hM := hM.bl hbc; replace hA := hA.bl hbc; replace hr := hr.bl hbc; replace hW := hW.bl hbc (by omega); replace hS := Nat.le_trans hS hbc.size; clear hbc) | (go_at_call 126; (with_reducible refine (HMK.out _).mono ?_); rintro e W ⟨rfl, hbc⟩; replace hT := hT.bl hbc; replace hU := hU.bl hbc; replace hP := hP.bl hbc; replace hM := hM.bl hbc; replace hA := hA.bl hbc; replace hr := hr.bl hbc; replace hW := hW.bl hbc (by omega); replace hS := Nat.le_trans hS hbc.size; clear hbc) | (go_at_call 115; (with_reducible refine (HIN.out _ hM hA).mono ?_); rintro e W ⟨rfl, hbc⟩; replace hT := hT.bl hbc; replace hU := hU.bl hbc; replace hP := hP.bl hbc; replace hM := hM.bl hbc; replace hA := hA.bl hbc; replace hr := hr.bl hbc; replace hW := hW.bl hbc (by omega); replace hS := Nat.le_trans hS hbc.size; clear hbc) | ((with_reducible refine st_u64 T _ (tg : Int) _ hT ?_ ?_ ?_); exact rfl; (exact congrArg _ esum.out); intro W hnew ho; replace hU := hU.only ho (by omega); replace hP := hP.only ho (by omega); replace hr := hr.only ho (by omega); replace hM := hM.only ho hnT; replace hA := hA.onlyR ho (by omega); replace hW := hW.onlyT ho (.inl rfl) (by omega); replace hS := (show w.heap.size + 1 ≤ W.heap.size by rw [ho.size]; exact hS); replace hT := hnew; clear hnew ho) | ((with_reducible refine st_bo1 U _ false _ hU ?_ ?_ ?_); exact rfl; exact rfl; intro W hnew ho; replace hT := hT.only ho (by omega); replace hP := hP.only ho (by omega); replace hr := hr.only ho (by omega); replace hM := hM.only ho hnU; replace hA := hA.onlyR ho (by omega); replace hW := hW.onlyT ho (.inr (.inl rfl)) (by omega); replace hS := (show w.heap.size + 1 ≤ W.heap.size by rw [ho.size]; exact hS); replace hU := hnew; clear hnew ho))
      go_ret
      exact ⟨rfl, hT, hU, hW⟩
  | false =>
    cases hv with
    | true =>
      by_cases c1 : 1048576 < tg
      · rw [show ((false && !true) || (decide (1048576 < tg) || (decide (g 1 ≠ 0) || (decide (an ≠ 0) || !pv)))) = true by simp [c1]]
        have d1 : (1048576 : Int) < (tg : Int) := by omega
        clear c1
        go_enter func125, ntmps125
        go_wp2_with (first | ((with_reducible refine bx_dp w.heap.size g ?_ ?_ ?_); exact rfl; exact rfl; intro W hr hb hz; have hbc := hb; replace hT := hT.bl hb; replace hU := hU.bl hb; replace hP := hP.bl hb; replace hM := hM.bl hb; replace hA := hA.bl hb; have hW : Went B (Two T U) (Two T U) w W := Went.of hb hB0; have hS : w.heap.size + 1 ≤ W.heap.size := Nat.le_of_eq hz.out.symm; clear hb hz hbc) | ((with_reducible refine ld_u64 T _ _ hT ?_ ?_ ?_); exact rfl; exact rfl) | ((with_reducible refine ld_bo1 U _ _ hU ?_ ?_ ?_); exact rfl; exact rfl) | ((with_reducible refine ld_pm1 Mb _ _ hP ?_ ?_ ?_); exact rfl; exact rfl) | ((with_reducible refine ld_dc w.heap.size 0 g (by decide) _ hr ?_ ?_ ?_); exact rfl; exact rfl) | ((with_reducible refine ld_dc w.heap.size 1 g (by decide) _ hr ?_ ?_ ?_); exact rfl; exact rfl) | ((with_reducible refine ld_dc w.heap.size 2 g (by decide) _ hr ?_ ?_ ?_); exact rfl; exact rfl) | ((with_reducible refine ld_dp w.heap.size g hr ?_ ?_ ?_); exact rfl; exact rfl) | (go_at_call 111; (with_reducible refine (HHS.out _).mono ?_); rintro e W ⟨rfl, hbc⟩; replace hT := hT.bl hbc; replace hU := hU.bl hbc; replace hP := hP.bl hbc; replace hM := hM.bl hbc; replace hA := hA.bl hbc; replace hr := hr.bl hbc; replace hW := hW.bl hbc (by omega); replace hS := Nat.le_trans hS hbc.size; clear hbc) | (go_at_call 126; (with_reducible refine (HMK.out _).mono ?_); rintro e W ⟨rfl, hbc⟩; replace hT := hT.bl hbc; replace hU := hU.bl hbc; replace hP := hP.bl hbc; replace hM := hM.bl hbc; replace hA := hA.bl hbc; replace hr := hr.bl hbc; replace hW := hW.bl hbc (by omega); replace hS := Nat.le_trans hS hbc.size; clear hbc) | (go_at_call 115; (with_reducible refine (HIN.out _ hM hA).mono ?_); rintro e W ⟨rfl, hbc⟩; replace hT := hT.bl hbc; replace hU := hU.bl hbc; replace hP := hP.bl hbc; replace hM := hM.bl hbc; replace hA := hA.bl hbc; replace hr := hr.bl hbc; replace hW := hW.bl hbc (by omega); replace hS := Nat.le_trans hS hbc.size; clear hbc) | ((with_reducible refine st_u64 T _ (tg : Int) _ hT ?_ ?_ ?_); exact rfl; (exact congrArg _ esum.out); intro W hnew ho; replace hU := hU.only ho (by omega); replace hP := hP.only ho (by omega); replace hr := hr.only ho (by omega); replace hM := hM.only ho hnT; replace hA := hA.onlyR ho (by omega); replace hW := hW.onlyT ho (.inl rfl) (by omega); replace hS := (show w.heap.size + 1 ≤ W.heap.size by rw [ho.size]; exact hS); replace hT := hnew; clear hnew ho) | ((with_reducible refine st_bo1 U _ true _ hU ?_ ?_ ?_); exact rfl; exact rfl; intro W hnew ho; replace hT := hT.only ho (by omega); replace hP := hP.only ho (by omega); replace hr := hr.only ho (by omega); replace hM := hM.only ho hnU; replace hA := hA.onlyR ho (by omega); replace hW := hW.onlyT ho (.inr (.inl rfl)) (by omega); replace hS := (show w.heap.size + 1 ≤ W.heap.size by rw [ho.size]; exact hS); replace hU := hnew; clear hnew ho))
        go_ret
        exact ⟨rfl, hT, hU, hW⟩
      · have d1 : decide ((1048576 : Int) < (tg : Int)) = false := by simp; omega
        by_cases c2 : g 1 = 0
        · have d2 : ((((g 1) : Nat) : Int) != 0) = false := by simp [c2]
          by_cases c3 : an = 0
          · have d3 : (((an : Nat) : Int) != 0) = false := by simp [c3]
            rw [show ((false && !true) || (decide (1048576 < tg) || (decide (g 1 ≠ 0) || (decide (an ≠ 0) || !pv)))) = !pv by simp [c1, c2, c3]]
            clear c1 c2 c3
            go_enter func125, ntmps125
            go_wp2_with (first | ((with_reducible refine bx_dp w.heap.size g ?_ ?_ ?_); exact rfl; exact rfl; intro W hr hb hz; have hbc := hb; replace hT := hT.bl hb; replace hU := hU.bl hb; replace hP := hP.bl hb; replace hM := hM.bl hb; replace hA := hA.bl hb; have hW : Went B (Two T U) (Two T U) w W := Went.of hb hB0; have hS : w.heap.size + 1 ≤ W.heap.size := Nat.le_of_eq hz.out.symm; clear hb hz hbc) | ((with_reducible refine ld_u64 T _ _ hT ?_ ?_ ?_); exact rfl; exact rfl) | ((with_reducible refine ld_bo1 U _ _ hU ?_ ?_ ?_); exact rfl; exact rfl) | ((with_reducible refine ld_pm1 Mb _ _ hP ?_ ?_ ?_); exact rfl; exact rfl) | ((with_reducible refine ld_dc w.heap.size 0 g (by decide) _ hr ?_ ?_ ?_); exact rfl; exact rfl) | ((with_reducible refine ld_dc w.heap.size 1 g (by decide) _ hr ?_ ?_ ?_); exact rfl; exact rfl) | ((with_reducible refine ld_dc w.heap.size 2 g (by decide) _ hr ?_ ?_ ?_); exact rfl; exact rfl) | ((with_reducible refine ld_dp w.heap.size g hr ?_ ?_ ?_); exact rfl; exact rfl) | (go_at_call 111; (with_reducible refine (HHS.out _).mono ?_); rintro e W ⟨rfl, hbc⟩; replace hT := hT.bl hbc; replace hU := hU.bl hbc; replace hP := hP.bl hbc; replace hM := hM.bl hbc; replace hA := hA.bl hbc; replace hr := hr.bl hbc; replace hW := hW.bl hbc (by omega); replace hS := Nat.le_trans hS hbc.size; clear hbc) | (go_at_call 126; (with_reducible refine (HMK.out _).mono ?_); rintro e W ⟨rfl, hbc⟩; replace hT := hT.bl hbc; replace hU := hU.bl hbc; replace hP := hP.bl hbc; replace hM := hM.bl hbc; replace hA := hA.bl hbc; replace hr := hr.bl hbc; replace hW := hW.bl hbc (by omega); replace hS := Nat.le_trans hS hbc.size; clear hbc) | (go_at_call 115; (with_reducible refine (HIN.out _ hM hA).mono ?_); rintro e W ⟨rfl, hbc⟩; replace hT := hT.bl hbc; replace hU := hU.bl hbc; replace hP := hP.bl hbc; replace hM := hM.bl hbc; replace hA := hA.bl hbc; replace hr := hr.bl hbc; replace hW := hW.bl hbc (by omega); replace hS := Nat.le_trans hS hbc.size; clear hbc) | ((with_reducible refine st_u64 T _ (tg : Int) _ hT ?_ ?_ ?_); exact rfl; (exact congrArg _ esum.out); intro W hnew ho; replace hU := hU.only ho (by omega); replace hP := hP.only ho (by omega); replace hr := hr.only ho (by omega); replace hM := hM.only ho hnT; replace hA := hA.onlyR ho (by omega); replace hW := hW.onlyT ho (.inl rfl) (by omega); replace hS := (show w.heap.size + 1 ≤ W.heap.size by rw [ho.size]; exact hS); replace hT := hnew; clear hnew ho) | ((with_reducible refine st_bo1 U _ true _ hU ?_ ?_ ?_); exact rfl; exact rfl; intro W hnew ho; replace hT := hT.only ho (by omega); replace hP := hP.only ho (by omega); replace hr := hr.only ho (by omega); replace hM := hM.only ho hnU; replace hA := hA.onlyR ho (by omega); replace hW := hW.onlyT ho (.inr (.inl rfl)) (by omega); replace hS := (show w.heap.size + 1 ≤ W.heap.size by rw [ho.size]; exact hS); replace hU := hnew; clear hnew ho))
            go_ret
            exact ⟨rfl, hT, hU, hW⟩
          · have d3 : (((an : Nat) : Int) != 0) = true := by simp; omega
            rw [show ((false && !true) || (decide (1048576 < tg) || (decide (g 1 ≠ 0) || (decide (an ≠ 0) || !pv)))) = true by simp [c3]]
            clear c1 c2 c3
            go_enter func125, ntmps125
            go_wp2_with (first | ((with_reducible refine bx_dp w.heap.size g ?_ ?_ ?_); exact rfl; exact rfl; intro W hr hb hz; have hbc := hb; replace hT := hT.bl hb; replace hU := hU.bl hb; replace hP := hP.bl hb; replace hM := hM.bl hb; replace hA := hA.bl hb; have hW : Went B (Two T U) (Two T U) w W := Went.of hb hB0; have hS : w.heap.size + 1 ≤ W.heap.size := Nat.le_of_eq hz.out.symm; clear hb hz hbc) | ((with_reducible refine ld_u64 T _ _ hT ?_ ?_ ?_); exact rfl; exact rfl) | ((with_reducible refine ld_bo1 U _ _ hU ?_ ?_ ?_); exact rfl; exact rfl) | ((with_reducible refine ld_pm1 Mb _ _ hP ?_ ?_ ?_); exact rfl; exact rfl) | ((with_reducible refine ld_dc w.heap.size 0 g (by decide) _ hr ?_ ?_ ?_); exact rfl; exact rfl) | ((with_reducible refine ld_dc w.heap.size 1 g (by decide) _ hr ?_ ?_ ?_); exact rfl; exact rfl) | ((with_reducible refine ld_dc w.heap.size 2 g (by decide) _ hr ?_ ?_ ?_); exact rfl; exact rfl) | ((with_reducible refine ld_dp w.heap.size g hr ?_ ?_ ?_); exact rfl; exact rfl) | (go_at_call 111; (with_reducible refine (HHS.out _).mono ?_); rintro e W ⟨rfl, hbc⟩; replace hT := hT.bl hbc; replace hU := hU.bl hbc; replace hP := hP.bl hbc; replace hM := hM.bl hbc; replace hA := hA.bl hbc; replace hr := hr.bl hbc; replace hW := hW.bl hbc (by omega); replace hS := Nat.le_trans hS hbc.size; clear hbc) | (go_at_call 126; (with_reducible refine (HMK.out _).mono ?_); rintro e W ⟨rfl, hbc⟩; replace hT := hT.bl hbc; replace hU := hU.bl hbc; replace hP := hP.bl hbc; replace hM := hM.bl hbc; replace hA := hA.bl hbc; replace hr := hr.bl hbc; replace hW := hW.bl hbc (by omega); replace hS := Nat.le_trans hS hbc.size; clear hbc) | (go_at_call 115; (with_reducible refine (HIN.out _ hM hA).mono ?_); rintro e W ⟨rfl, hbc⟩; replace hT := hT.bl hbc; replace hU := hU.bl hbc; replace hP := hP.bl hbc; replace hM := hM.bl hbc; replace hA := hA.bl hbc; replace hr := hr.bl hbc; replace hW := hW.bl hbc (by omega); replace hS := Nat.le_trans hS hbc.size; clear hbc) | ((with_reducible refine st_u64 T _ (tg : Int) _ hT ?_ ?_ ?_); exact rfl; (exact congrArg _ esum.out); intro W hnew ho; replace hU := hU.only ho (by omega); replace hP := hP.only ho (by omega); replace hr := hr.only ho (by omega); replace hM := hM.only ho hnT; replace hA := hA.onlyR ho (by omega); replace hW := hW.onlyT ho (.inl rfl) (by omega); replace hS := (show w.heap.size + 1 ≤ W.heap.size by rw [ho.size]; exact hS); replace hT := hnew; clear hnew ho) | ((with_reducible refine st_bo1 U _ true _ hU ?_ ?_ ?_); exact rfl; exact rfl; intro W hnew ho; replace hT := hT.only ho (by omega); replace hP := hP.only ho (by omega); replace hr := hr.only ho (by omega); replace hM := hM.only ho hnU; replace hA := hA.onlyR ho (by omega); replace hW := hW.onlyT ho (.inr (.inl rfl)) (by omega); replace hS := (show w.heap.size + 1 ≤ W.heap.size by rw [ho.size]; exact hS); replace hU := hnew; clear hnew ho))
            go_ret
            exact ⟨rfl, hT, hU, hW⟩
        · have d2 : ((((g 1) : Nat) : Int) != 0) = true := by simp; omega
          rw [show ((false && !true) || (decide (1048576 < tg) || (decide (g 1 ≠ 0) || (decide (an ≠ 0) || !pv)))) = true by simp [c2]]
          clear c1 c2
          go_enter func125, ntmps125
          go_wp2_with (first | ((with_reducible refine bx_dp w.heap.size g ?_ ?_ ?_); exact rfl; exact rfl; intro W hr hb hz; have hbc := hb; replace hT := hT.bl hb; replace hU := hU.bl hb; replace hP := hP.bl hb; replace hM := hM.bl hb; replace hA := hA.bl hb; have hW : Went B (Two T U) (Two T U) w W := Went.of hb hB0; have hS : w.heap.size + 1 ≤ W.heap.size := Nat.le_of_eq hz.out.symm; clear hb hz hbc) | ((with_reducible refine ld_u64 T _ _ hT ?_ ?_ ?_); exact rfl; exact rfl) | ((with_reducible refine ld_bo1 U _ _ hU ?_ ?_ ?_); exact rfl; exact rfl) | ((with_reducible refine ld_pm1 Mb _ _ hP ?_ ?_ ?_); exact rfl; exact rfl) | ((with_reducible refine ld_dc w.heap.size 0 g (by decide) _ hr ?_ ?_ ?_); exact rfl; exact rfl) | ((with_reducible refine ld_dc w.heap.size 1 g (by decide) _ hr ?_ ?_ ?_); exact rfl; exact rfl) | ((with_reducible refine ld_dc w.heap.size 2 g (by decide) _ hr ?_ ?_ ?_); exact rfl; exact rfl) | ((with_reducible refine ld_dp w.heap.size g hr ?_ ?_ ?_); exact rfl; exact rfl) | (go_at_call 111; (with_reducible refine (HHS.out _).mono ?_); rintro e W ⟨rfl, hbc⟩; replace hT := hT.bl hbc; replace hU := hU.bl hbc; replace hP := hP.bl hbc; replace hM := hM.bl hbc; replace hA := hA.bl hbc; replace hr := hr.bl hbc; replace hW := hW.bl hbc (by omega); replace hS := Nat.le_trans hS hbc.size; clear hbc) | (go_at_call 126; (with_reducible refine (HMK.out _).mono ?_); rintro e W ⟨rfl, hbc⟩; replace hT := hT.bl hbc; replace hU := hU.bl hbc; replace hP := hP.bl hbc; replace hM := hM.bl hbc; replace hA := hA.bl hbc; replace hr := hr.bl hbc; replace hW := hW.bl hbc (by omega); replace hS := Nat.le_trans hS hbc.size; clear hbc) | (go_at_call 115; (with_reducible refine (HIN.out _ hM hA).mono ?_); rintro e W ⟨rfl, hbc⟩; replace hT := hT.bl hbc; replace hU := hU.bl hbc; replace hP := hP.bl hbc; replace hM := hM.bl hbc; replace hA := hA.bl hbc; replace hr := hr.bl hbc; replace hW := hW.bl hbc (by omega); replace hS := Nat.le_trans hS hbc.size; clear hbc) | ((with_reducible refine st_u64 T _ (tg : Int) _ hT ?_ ?_ ?_); exact rfl; (exact congrArg _ esum.out); intro W hnew ho; replace hU := hU.only ho (by omega); replace hP := hP.only ho (by omega); replace hr := hr.only ho (by omega); replace hM := hM.only ho hnT; replace hA := hA.onlyR ho (by omega); replace hW := hW.onlyT ho (.inl rfl) (by omega); replace hS := (show w.heap.size + 1 ≤ W.heap.size by rw [ho.size]; exact hS); replace hT := hnew; clear hnew ho) | ((with_reducible refine st_bo1 U _ true _ hU ?_ ?_ ?_); exact rfl; exact rfl; intro W hnew ho; replace hT := hT.only ho (by omega); replace hP := hP.only ho (by omega); replace hr := hr.only ho (by omega); replace hM := hM.only ho hnU; replace hA := hA.onlyR ho (by omega); replace hW := hW.onlyT ho (.inr (.inl rfl)) (by omega); replace hS := (show w.heap.size + 1 ≤ W.heap.size by rw [ho.size]; exact hS); replace hU := hnew; clear hnew ho))
          go_ret
          exact ⟨rfl, hT, hU, hW⟩
    | false =>
      by_cases c1 : 1048576 < tg
      · rw [show ((false && !false) || (decide (1048576 < tg) || (decide (g 1 ≠ 0) || (decide (an ≠ 0) || !pv)))) = true by simp [c1]]
        have d1 : (1048576 : Int) < (tg : Int) := by omega
        clear c1
        go_enter func125, ntmps125
        go_wp2_with (first | ((with_reducible refine bx_dp w.heap.size g ?_ ?_ ?_); exact rfl; exact rfl; intro W hr hb hz; have hbc := hb; replace hT := hT.bl hb; replace hU := hU.bl hb; replace hP := hP.bl hb; replace hM := hM.bl hb; replace hA := hA.bl hb; have hW : Went B (Two T U) (Two T U) w W := Went.of hb hB0; have hS : w.heap.size + 1 ≤ W.heap.size := Nat.le_of_eq hz.out.symm; clear hb hz hbc) | ((with_reducible refine ld_u64 T _ _ hT ?_ ?_ ?_); exact rfl; exact rfl) | ((with_reducible refine ld_bo1 U _ _ hU ?_ ?_ ?_); exact rfl; exact rfl) | ((with_reducible refine ld_pm1 Mb _ _ hP ?_ ?_ ?_); exact rfl; exact rfl) | ((with_reducible refine ld_dc w.heap.size 0 g (by decide) _ hr ?_ ?_ ?_); exact rfl; exact rfl) | ((with_reducible refine ld_dc w.heap.size 1 g (by decide) _ hr ?_ ?_ ?_); exact rfl; exact rfl) | ((with_reducible refine ld_dc w.heap.size 2 g (by decide) _ hr ?_ ?_ ?_); exact rfl; exact rfl) | ((with_reducible refine ld_dp w.heap.size g hr ?_ ?_ ?_); exact rfl; exact rfl) | (go_at_call 111; (with_reducible refine (HHS.out _).mono ?_); rintro e W ⟨rfl, hbc⟩; replace hT := hT.bl hbc; replace hU := hU.bl hbc; replace hP := hP.bl hbc; replace hM := hM.bl hbc; replace hA := hA.bl hbc; replace hr := hr.bl hbc; replace hW := hW.bl hbc (by omega); replace hS := Nat.le_trans hS hbc.size; clear hbc) | (go_at_call 126; (with_reducible refine (HMK.out _).mono ?_); rintro e W ⟨rfl, hbc⟩; replace hT := hT.bl hbc; replace hU := hU.bl hbc; replace hP := hP.bl hbc; replace hM := hM.bl hbc; replace hA := hA.bl hbc; replace hr := hr.bl hbc; replace hW := hW.bl hbc (by omega); replace hS := Nat.le_trans hS hbc.size; clear hbc) | (go_at_call 115; (with_reducible refine (HIN.out _ hM hA).mono ?_); rintro e W ⟨rfl, hbc⟩; replace hT := hT.bl hbc; replace hU := hU.bl hbc; replace hP := hP.bl hbc; replace hM := hM.bl hbc; replace hA := hA.bl hbc; replace hr := hr.bl hbc; replace hW := hW.bl hbc (by omega); replace hS := Nat.le_trans hS hbc.size; clear hbc) | ((with_reducible refine st_u64 T _ (tg : Int) _ hT ?_ ?_ ?_); exact rfl; (exact congrArg _ esum.out); intro W hnew ho; replace hU := hU.only ho (by omega); replace hP := hP.only ho (by omega); replace hr := hr.only ho (by omega); replace hM := hM.only ho hnT; replace hA := hA.onlyR ho (by omega); replace hW := hW.onlyT ho (.inl rfl) (by omega); replace hS := (show w.heap.size + 1 ≤ W.heap.size by rw [ho.size]; exact hS); replace hT := hnew; clear hnew ho) | ((with_reducible refine st_bo1 U _ false _ hU ?_ ?_ ?_); exact rfl; exact rfl; intro W hnew ho; replace hT := hT.only ho (by omega); replace hP := hP.only ho (by omega); replace hr := hr.only ho (by omega); replace hM := hM.only ho hnU; replace hA := hA.onlyR ho (by omega); replace hW := hW.onlyT ho (.inr (.inl rfl)) (by omega); replace hS := (show w.heap.size + 1 ≤ W.heap.size by rw [ho.size]; exact hS); replace hU := hnew; clear hnew ho))
        go_ret
        exact ⟨rfl, hT, hU, hW⟩
      · have d1 : decide ((1048576 : Int) < (tg : Int)) = false := by simp; omega
        by_cases c2 : g 1 = 0
        · have d2 : ((((g 1) : Nat) : Int) != 0) = false := by simp [c2]
          by_cases c3 : an = 0
          · have d3 : (((an : Nat) : Int) != 0) = false := by simp [c3]
            rw [show ((false && !false) || (decide (1048576 < tg) || (decide (g 1 ≠ 0) || (decide (an ≠ 0) || !pv)))) = !pv by simp [c1, c2, c3]]
            clear c1 c2 c3
            go_enter func125, ntmps125
            go_wp2_with (first | ((with_reducible refine bx_dp w.heap.size g ?_ ?_ ?_); exact rfl; exact rfl; intro W hr hb hz; have hbc := hb; replace hT := hT.bl hb; replace hU := hU.bl hb; replace hP := hP.bl hb; replace hM := hM.bl hb; replace hA := hA.bl hb; have hW : Went B (Two T U) (Two T U) w W := Went.of hb hB0; have hS : w.heap.size + 1 ≤ W.heap.size := Nat.le_of_eq hz.out.symm; clear hb hz hbc) | ((with_reducible refine ld_u64 T _ _ hT ?_ ?_ ?_); exact rfl; exact rfl) | ((with_reducible refine ld_bo1 U _ _ hU ?_ ?_ ?_); exact rfl; exact rfl) | ((with_reducible refine ld_pm1 Mb _ _ hP ?_ ?_ ?_); exact rfl; exact rfl) | ((with_reducible refine ld_dc w.heap.size 0 g (by decide) _ hr ?_ ?_ ?_); exact rfl; exact rfl) | ((with_reducible refine ld_dc w.heap.size 1 g (by decide) _ hr ?_ ?_ ?_); exact rfl; exact rfl) | ((with_reducible refine ld_dc w.heap.size 2 g (by decide) _ hr ?_ ?_ ?_); exact rfl; exact rfl) | ((with_reducible refine ld_dp w.heap.size g hr ?_ ?_ ?_); exact rfl; exact rfl) | (go_at_call 111; (with_reducible refine (HHS.out _).mono ?_); rintro e W ⟨rfl, hbc⟩; replace hT := hT.bl hbc; replace hU := hU.bl hbc; replace hP := hP.bl hbc; replace hM := hM.bl hbc; replace hA := hA.bl hbc; replace hr := hr.bl hbc; replace hW := hW.bl hbc (by omega); replace hS := Nat.le_trans hS hbc.size; clear hbc) | (go_at_call 126; (with_reducible refine (HMK.out _).mono ?_); rintro e W ⟨rfl, hbc⟩; replace hT := hT.bl hbc; replace hU := hU.bl hbc; replace hP := hP.bl hbc; replace hM := hM.bl hbc; replace hA := hA.bl hbc; replace hr := hr.bl hbc; replace hW := hW.bl hbc (by omega); replace hS := Nat.le_trans hS hbc.size; clear hbc) | (go_at_call 115; (with_reducible refine (HIN.out _ hM hA).mono ?_); rintro e W ⟨rfl, hbc⟩; replace hT := hT.bl hbc; replace hU := hU.bl hbc; replace hP := hP.bl hbc; replace hM := hM.bl hbc; replace hA := hA.bl hbc; replace hr := hr.bl hbc; replace hW := hW.bl hbc (by omega); replace hS := Nat.le_trans hS hbc.size; clear hbc) | ((with_reducible refine st_u64 T _ (tg : Int) _ hT ?_ ?_ ?_); exact rfl; (exact congrArg _ esum.out); intro W hnew ho; replace hU := hU.only ho (by omega); replace hP := hP.only ho (by omega); replace hr := hr.only ho (by omega); replace hM := hM.only ho hnT; replace hA := hA.onlyR ho (by omega); replace hW := hW.onlyT ho (.inl rfl) (by omega); replace hS := (show w.heap.size + 1 ≤ W.heap.size by rw [ho.size]; exact hS); replace hT := hnew; clear hnew ho) | ((with_reducible refine st_bo1 U _ false _ hU ?_ ?_ ?_); exact rfl; exact rfl; intro W hnew ho; replace hT := hT.only ho (by omega); replace hP := hP.only ho (by omega); replace hr := hr.only ho (by omega); replace hM := hM.only ho hnU; replace hA := hA.onlyR ho (by omega); replace hW := hW.onlyT ho (.inr (.inl rfl)) (by omega); replace hS := (show w.heap.size + 1 ≤ W.heap.size by rw [ho.size]; exact hS); replace hU := hnew; clear hnew ho))
            go_ret
            exact ⟨rfl, hT, hU, hW⟩
          · have d3 : (((an : Nat) : Int) != 0) = true := by simp; omega
            rw [show ((false && !false) || (decide (1048576 < tg) || (decide (g 1 ≠ 0) || (decide (an ≠ 0) || !pv)))) = true by simp [c3]]
            clear c1 c2 c3
            go_enter func125, ntmps125
            go_wp2_with (first | ((with_reducible refine bx_dp w.heap.size g ?_ ?_ ?_); exact rfl; exact rfl; intro W hr hb hz; have hbc := hb; replace hT := hT.bl hb; replace hU := hU.bl hb; replace hP := hP.bl hb; replace hM := hM.bl hb; replace hA := hA.bl hb; have hW : Went B (Two T U) (Two T U) w W := Went.of hb hB0; have hS : w.heap.size + 1 ≤ W.heap.size := Nat.le_of_eq hz.out.symm; clear hb hz hbc) | ((with_reducible refine ld_u64 T _ _ hT ?_ ?_ ?_); exact rfl; exact rfl) | ((with_reducible refine ld_bo1 U _ _ hU ?_ ?_ ?_); exact rfl; exact rfl) | ((with_reducible refine ld_pm1 Mb _ _ hP ?_ ?_ ?_); exact rfl; exact rfl) | ((with_reducible refine ld_dc w.heap.size 0 g (by decide) _ hr ?_ ?_ ?_); exact rfl; exact rfl) | ((with_reducible refine ld_dc w.heap.size 1 g (by decide) _ hr ?_ ?_ ?_); exact rfl; exact rfl) | ((with_reducible refine ld_dc w.heap.size 2 g (by decide) _ hr ?_ ?_ ?_); exact rfl; exact rfl) | ((with_reducible refine ld_dp w.heap.size g hr ?_ ?_ ?_); exact rfl; exact rfl) | (go_at_call 111; (with_reducible refine (HHS.out _).mono ?_); rintro e W ⟨rfl, hbc⟩; replace hT := hT.bl hbc; replace hU := hU.bl hbc; replace hP := hP.bl hbc; replace hM := hM.bl hbc; replace hA := hA.bl hbc; replace hr := hr.bl hbc; replace hW := hW.bl hbc (by omega); replace hS := Nat.le_trans hS hbc.size; clear hbc) | (go_at_call 126; (with_reducible refine (HMK.out _).mono ?_); rintro e W ⟨rfl, hbc⟩; replace hT := hT.bl hbc; replace hU := hU.bl hbc; replace hP := hP.bl hbc; replace hM := hM.bl hbc; replace hA := hA.bl hbc; replace hr := hr.bl hbc; replace hW := hW.bl hbc (by omega); replace hS := Nat.le_trans hS hbc.size; clear hbc) | (go_at_call 115; (with_reducible refine (HIN.out _ hM hA).mono ?_); rintro e W ⟨rfl, hbc⟩; replace hT := hT.bl hbc; replace hU := hU.bl hbc; replace hP := hP.bl hbc; replace hM := hM.bl hbc; replace hA := hA.bl hbc; replace hr := hr.bl hbc; replace hW := hW.bl hbc (by omega); replace hS := Nat.le_trans hS hbc.size; clear hbc) | ((with_reducible refine st_u64 T _ (tg : Int) _ hT ?_ ?_ ?_); exact rfl; (exact congrArg _ esum.out); intro W hnew ho; replace hU := hU.only ho (by omega); replace hP := hP.only ho (by omega); replace hr := hr.only ho (by omega); replace hM := hM.only ho hnT; replace hA := hA.onlyR ho (by omega); replace hW := hW.onlyT ho (.inl rfl) (by omega); replace hS := (show w.heap.size + 1 ≤ W.heap.size by rw [ho.size]; exact hS); replace hT := hnew; clear hnew ho) | ((with_reducible refine st_bo1 U _ false _ hU ?_ ?_ ?_); exact rfl; exact rfl; intro W hnew ho; replace hT := hT.only ho (by omega); replace hP := hP.only ho (by omega); replace hr := hr.only ho (by omega); replace hM := hM.only ho hnU; replace hA := hA.onlyR ho (by omega); replace hW := hW.onlyT ho (.inr (.inl rfl)) (by omega); replace hS := (show w.heap.size + 1 ≤ W.heap.size by rw [ho.size]; exact hS); replace hU := hnew; clear hnew ho))
            go_ret
            exact ⟨rfl, hT, hU, hW⟩
        · have d2 : ((((g 1) : Nat) : Int) != 0) = true := by simp; omega
          rw [show ((false && !false) || (decide (1048576 < tg) || (decide (g 1 ≠ 0) || (decide (an ≠ 0) || !pv)))) = true by simp [c2]]
          clear c1 c2
          go_enter func125, ntmps125
          go_wp2_with (first | ((with_reducible refine bx_dp w.heap.size g ?_ ?_ ?_); exact rfl; exact rfl; intro W hr hb hz; have hbc := hb; replace hT := hT.bl hb; replace hU := hU.bl hb; replace hP := hP.bl hb; replace hM := hM.bl hb; replace hA := hA.bl hb; have hW : Went B (Two T U) (Two T U) w W := Went.of hb hB0; have hS : w.heap.size + 1 ≤ W.heap.size := Nat.le_of_eq hz.out.symm; clear hb hz hbc) | ((with_reducible refine ld_u64 T _ _ hT ?_ ?_ ?_); exact rfl; exact rfl) | ((with_reducible refine ld_bo1 U _ _ hU ?_ ?_ ?_); exact rfl; exact rfl) | ((with_reducible refine ld_pm1 Mb _ _ hP ?_ ?_ ?_); exact rfl; exact rfl) | ((with_reducible refine ld_dc w.heap.size 0 g (by decide) _ hr ?_ ?_ ?_); exact rfl; exact rfl) | ((with_reducible refine ld_dc w.heap.size 1 g (by decide) _ hr ?_ ?_ ?_); exact rfl; exact rfl) | ((with_reducible refine ld_dc w.heap.size 2 g (by decide) _ hr ?_ ?_ ?_); exact rfl; exact rfl) | ((with_reducible refine ld_dp w.heap.size g hr ?_ ?_ ?_); exact rfl; exact rfl) | (go_at_call 111; (with_reducible refine (HHS.out _).mono ?_); rintro e W ⟨rfl, hbc⟩; replace hT := hT.bl hbc; replace hU := hU.bl hbc; replace hP := hP.bl hbc; replace hM := hM.bl hbc; replace hA := hA.bl hbc; replace hr := hr.bl hbc; replace hW := hW.bl hbc (by omega); replace hS := Nat.le_trans hS hbc.size; clear hbc) | (go_at_call 126; (with_reducible refine (HMK.out _).mono ?_); rintro e W ⟨rfl, hbc⟩; replace hT := hT.bl hbc; replace hU := hU.bl hbc; replace hP := hP.bl hbc; replace hM := hM.bl hbc; replace hA := hA.bl hbc; replace hr := hr.bl hbc; replace hW := hW.bl hbc (by omega); replace hS := Nat.le_trans hS hbc.size; clear hbc) | (go_at_call 115; (with_reducible refine (HIN.out _ hM hA).mono ?_); rintro e W ⟨rfl, hbc⟩; replace hT := hT.bl hbc; replace hU := hU.bl hbc; replace hP := hP.bl hbc; replace hM := hM.bl hbc; replace hA := hA.bl hbc; replace hr := hr.bl hbc; replace hW := hW.bl hbc (by omega); replace hS := Nat.le_trans hS hbc.size; clear hbc) | ((with_reducible refine st_u64 T _ (tg : Int) _ hT ?_ ?_ ?_); exact rfl; (exact congrArg _ esum.out); intro W hnew ho; replace hU := hU.only ho (by omega); replace hP := hP.only ho (by omega); replace hr := hr.only ho (by omega); replace hM := hM.only ho hnT; replace hA := hA.onlyR ho (by omega); replace hW := hW.onlyT ho (.inl rfl) (by omega); replace hS := (show w.heap.size + 1 ≤ W.heap.size by rw [ho.size]; exact hS); replace hT := hnew; clear hnew ho) | ((with_reducible refine st_bo1 U _ false _ hU ?_ ?_ ?_); exact rfl; exact rfl; intro W hnew ho; replace hT := hT.only ho (by omega); replace hP := hP.only ho (by omega); replace hr := hr.only ho (by omega); replace hM := hM.only ho hnU; replace hA := hA.onlyR ho (by omega); replace hW := hW.onlyT ho (.inr (.inl rfl)) (by omega); replace hS := (show w.heap.size + 1 ≤ W.heap.size by rw [ho.size]; exact hS); replace hU := hnew; clear hnew ho))
          go_ret
          exact ⟨rfl, hT, hU, hW⟩
end Go.Proofs.YtbggkoahofnnjaaGreatDoor
namespace Go.Proofs.YtbggkoahofnnjaaGreatDoor
open Go.RowKit
set_option maxHeartbeats 2000000
theorem own_row {w : World} {B e size n : Nat} {v : Value} {xs : List Value} (h : w.ownsRow B e size v n xs) (hn : 0 < n) : ∃ g cap cur, v = .slice (some ⟨g, 0, none⟩) n cap ∧ n ≤ cap ∧ cap ≤ maxLen ∧ B ≤ g ∧ RowAt w g cur e ∧ cur.size = cap * size ∧ cur.toList.take (n * size) = xs := by
  rcases h.2 with ⟨_, h2⟩ | ⟨g, cap, cur, h1, h2, h3, h4, h5, h6, h7⟩
  · omega
  · exact ⟨g, cap, cur, h1, h4, h5, h2, h3, h6, h7⟩
theorem mid_of {cur vs : Array Value} {xs : List Value} {m o : Nat} (ht : cur.toList.take m = xs) (hv : ∀ i, i < vs.size → xs[o + i]? = vs[i]?) : (cur.extract o (o + vs.size)).toList = vs.toList := by
  have hc : ∀ i, i < vs.size → cur[o + i]? = vs[i]? := by
    intro i hi
    have h1 := hv i hi
    rw [← ht, List.getElem?_take] at h1
    split at h1
    · rw [← h1, Array.getElem?_toList]
    · rw [Array.getElem?_eq_getElem hi] at h1; cases h1
  apply List.ext_getElem?
  intro i
  rw [Array.getElem?_toList, Array.getElem?_toList, Array.getElem?_extract]
  by_cases hi : i < vs.size
  · have h2 := hc i hi
    have hlt : o + i < cur.size := by
      rcases Nat.lt_or_ge (o + i) cur.size with e | e
      · exact e
      · rw [Array.getElem?_eq_none e, Array.getElem?_eq_getElem hi] at h2; cases h2
    rw [if_pos (by omega), h2]
  · rw [if_neg (by omega), Array.getElem?_eq_none (by omega)]
theorem mid_d {cur : Array Value} {l : List (Nat → Nat)} {m k : Nat} {d : Nat → Nat} (ht : cur.toList.take m = dscL l) (hk : l[k]? = some d) : (cur.extract (k * 4) (k * 4 + (dscV d).size)).toList = (dscV d).toList :=
  mid_of ht (fun i hi => dscL_at l k d hk i hi)
theorem mid_s {cur : Array Value} {l : List Sg} {m k : Nat} {d : Sg} (ht : cur.toList.take m = segL l) (hk : l[k]? = some d) : (cur.extract (k * 3) (k * 3 + d.cells.size)).toList = d.cells.toList :=
  mid_of ht (fun i hi => segL_at l k d hk i hi)
variable {ops : Array Oper} {rest : List Oper} {dst : Option Tmp} {ty : TypeId} {pos : String} {after : Array Edge} {a : Act} {w : World} {Q : Exit → Act → World → Prop} {x y : Operand} {gd : Option (Nat × Bool)}
theorem ld_dm (b j : Nat) (d : Nat → Nat) (cur : Array Value) (hr : RowAt w b cur 226) (hm : (cur.extract j (j + (dscV d).size)).toList = (dscV d).toList) (hx : a.eval x = .pointer (some ⟨b, j, none⟩))
    (k : wpList prog ops Q rest (a.put dst (.agg (dscV d))) w) : wpList prog ops Q (⟨dst, .load 226 x, ty, pos, after, none⟩ :: rest) a w :=
  op_load_mid b j hx cur (dscV d) _ hr hm _ underlying226 rfl size_dp k
theorem ld_sm (b j : Nat) (d : Sg) (cur : Array Value) (t' : TypeId) (hr : RowAt w b cur t') (hm : (cur.extract j (j + d.cells.size)).toList = d.cells.toList) (hx : a.eval x = .pointer (some ⟨b, j, none⟩))
    (k : wpList prog ops Q rest (a.put dst (.agg d.cells)) w) : wpList prog ops Q (⟨dst, .load 193 x, ty, pos, after, none⟩ :: rest) a w :=
  op_load_mid b j hx cur d.cells _ hr hm _ underlying193 rfl size_sp k
theorem idx_odd (l : List (Nat → Nat)) (hl : l.length ≤ 256) (hw : ∀ g ∈ l, ∀ i, g i < 4294967296) {w : World} {B b p c T U Mb gb cap : Nat} {tT tU tM : TypeId} {f : Nat → Nat} {O : Nat → Prop} {cur : Array Value} (hM : RamB w B b p f c O) (hA : AreasAt w) (hG : 2 < B)
    (hT : RowAt w T #[.int .u64 0] tT) (hU : RowAt w U #[.bool false] tU) (hP : RowAt w Mb #[.pointer (some ⟨b, 0, none⟩)] tM) (hTU : T ≠ U) (hTM : T ≠ Mb) (hUM : U ≠ Mb) (hBT : B ≤ T) (hBU : B ≤ U) (hnT : ¬ O T) (hnU : ¬ O U) (hL : RowAt w gb cur 226) (ht : cur.toList.take (l.length * 4) = dscL l) (hgT : gb ≠ T) (hgU : gb ≠ U) :
    Calls prog 124 #[.slice (some ⟨gb, 0, none⟩) l.length cap, .func (.func 125) #[] #[.pointer (some ⟨T, 0, none⟩), .pointer (some ⟨U, 0, none⟩), .pointer (some ⟨Mb, 0, none⟩)]] w fun e w' => ∃ z : Int, e = .returned (.int .i64 z) ∧ (0 ≤ z ↔ oddL p 0 false l = true) ∧ Went B (Two T U) (Two T U) w w' := by
  have HM := hide hM
  have HA := hide hA
  have HP := hide hP
  have HL := hide hL
  obtain ⟨n, hn⟩ : ∃ n, l.length = n := ⟨_, rfl⟩
  have HN := hide hn
  rw [hn] at hl ht ⊢
  have HT := hide ht
  have hOT : Hid (∀ x, O x → ¬ Two T U x) := hide (fun x hx e => by rcases e with rfl | rfl; exact hnT hx; exact hnU hx)
  have hGT : ¬ Two T U gb := fun e => by rcases e with e | e; exact hgT e; exact hgU e
  have hMT : ¬ Two T U Mb := fun e => by rcases e with e | e; exact hTM e.symm; exact hUM e.symm
  have hB0 := hM.base
  clear hM hA hP hL ht hn
  go_enter func124, ntmps124
  go_wp2
  go_loopw [8] (fun iv wr => ∃ (k tot : Nat) (wv : Bool), k ≤ n ∧ iv = .int .i64 (k : Nat) ∧ oddL p 0 false l = oddL p tot wv (l.drop k) ∧ tot ≤ 4294967296 * k ∧ RowAt wr T #[.int .u64 (tot : Nat)] tT ∧ RowAt wr U #[.bool wv] tU ∧ Went B (Two T U) (Two T U) w wr) (fun iv _ => n - (intOf iv).toNat)
  case atStart => exact ⟨0, 0, false, Nat.zero_le _, rfl, rfl, Nat.zero_le _, hT, hU, Went.refl _ _ _⟩
  case round =>
    clear hT hU
    obtain ⟨k, tot, wv, hk, rfl, hod, htt, hT, hU, hW⟩ := hrel
    have HOD := hide hod
    clear hod
    have hL := hW.row HL.out hGT
    by_cases hlt : k < n
    · obtain ⟨d, hd⟩ : ∃ d, l[k]? = some d := ⟨_, List.getElem?_eq_getElem (by rw [HN.out]; exact hlt)⟩
      have hmid := mid_d HT.out hd
      have hdr : l.drop k = d :: l.drop (k + 1) := by
        obtain ⟨h1, h2⟩ := List.getElem?_eq_some_iff.1 hd
        rw [List.drop_eq_getElem_cons h1, h2]
      have hgw := hw d (List.mem_of_getElem? hd)
      have hg2 := hgw 2
      have HC : Hid (Calls prog 125 #[.agg (dscV d), .pointer (some ⟨T, 0, none⟩), .pointer (some ⟨U, 0, none⟩), .pointer (some ⟨Mb, 0, none⟩)] wr fun e w' => e = .returned (.bool (oddD p tot wv d)) ∧ RowAt w' T #[.int .u64 ((tot + d 2 : Nat) : Int)] tT ∧ RowAt w' U #[.bool (hasD d 2)] tU ∧ Went B (Two T U) (Two T U) wr w') :=
        hide (odd_step d hgw tot wv (by omega) (HM.out.beside hW hOT.out) (HA.out.wentR hG hW) hG hT hU (hW.row HP.out hMT) hTU hTM hUM hBT hBU hnT hnU)
      have hoc : oddL p tot wv (l.drop k) = (oddD p tot wv d || oddL p (tot + d 2) (hasD d 2) (l.drop (k + 1))) := by rw [hdr]; rfl
      have HOC := hide hoc
      obtain ⟨bo, hbo⟩ : ∃ x, oddD p tot wv d = x := ⟨_, rfl⟩
      rw [hbo] at HC HOC
      clear hd hdr hoc hbo hgw
      have ldm : Hid (RowAt wr gb cur 226) := hide hL
      cases bo with
      | true =>
        go_wp2_with (first | ((with_reducible refine ld_dm gb (k * 4) d cur hL hmid ?_ ?_); exact rfl) | (go_at_call 125; (with_reducible refine HC.out.mono ?_); rintro e W2 ⟨rfl, hT2, hU2, hW2⟩))
        go_ret
        refine ⟨_, rfl, ⟨fun _ => by rw [HOD.out, HOC.out]; rfl, fun _ => by omega⟩, hW.trans hW2⟩
      | false =>
        go_wp2_with (first | ((with_reducible refine ld_dm gb (k * 4) d cur hL hmid ?_ ?_); exact rfl) | (go_at_call 125; (with_reducible refine HC.out.mono ?_); rintro e W2 ⟨rfl, hT2, hU2, hW2⟩))
        go_roundw
        case rel => exact ⟨k + 1, tot + d 2, hasD d 2, hlt, by go_num, by rw [HOD.out, HOC.out]; rfl, by omega, hT2, hU2, hW.trans hW2⟩
        case measure => simp [intOf]; omega
    · obtain rfl : k = n := by omega
      go_wp2
      go_ret
      refine ⟨_, rfl, ⟨fun e => absurd e (by decide), fun e => ?_⟩, hW⟩
      rw [HOD.out, ← HN.out, List.drop_length] at e
      cases e
theorem con_odd (l : List (Nat → Nat)) (hl : l.length ≤ 256) (hw : ∀ g ∈ l, ∀ i, g i < 4294967296) {w : World} {B b p c T U Mb gb cap : Nat} {tT tU tM : TypeId} {f : Nat → Nat} {O : Nat → Prop} {cur : Array Value} (hM : RamB w B b p f c O) (hA : AreasAt w) (hG : 2 < B)
    (hT : RowAt w T #[.int .u64 0] tT) (hU : RowAt w U #[.bool false] tU) (hP : RowAt w Mb #[.pointer (some ⟨b, 0, none⟩)] tM) (hTU : T ≠ U) (hTM : T ≠ Mb) (hUM : U ≠ Mb) (hBT : B ≤ T) (hBU : B ≤ U) (hnT : ¬ O T) (hnU : ¬ O U) (hL : RowAt w gb cur 226) (ht : cur.toList.take (l.length * 4) = dscL l) (hgT : gb ≠ T) (hgU : gb ≠ U) :
    Calls prog 109 #[.slice (some ⟨gb, 0, none⟩) l.length cap, .func (.func 125) #[] #[.pointer (some ⟨T, 0, none⟩), .pointer (some ⟨U, 0, none⟩), .pointer (some ⟨Mb, 0, none⟩)]] w fun e w' => e = .returned (.bool (oddL p 0 false l)) ∧ Went B (Two T U) (Two T U) w w' := by
  have HI := hide (idx_odd (cap := cap) l hl hw hM hA hG hT hU hP hTU hTM hUM hBT hBU hnT hnU hL ht hgT hgU)
  generalize oddL p 0 false l = ob at HI ⊢
  generalize l.length = n at HI ⊢
  clear hM hA hT hU hP hL ht hl hw
  go_enter func109, ntmps109
  go_wp2_with (first | (go_at_call 124; (with_reducible refine HI.out.mono ?_); rintro e W2 ⟨z, rfl, hz, hW2⟩))
  go_ret
  exact ⟨rfl, hW2⟩
theorem oio_any (b : Nat) (w : World) : Calls prog 110 #[.pointer (some ⟨b, 0, none⟩)] w fun e w' => e = .returned (.func (.func 125) #[] #[.pointer (some ⟨w.heap.size + 1, 0, none⟩), .pointer (some ⟨w.heap.size + 1 + 1, 0, none⟩), .pointer (some ⟨w.heap.size, 0, none⟩)]) ∧
    RowAt w' (w.heap.size + 1) #[.int .u64 0] 191 ∧ RowAt w' (w.heap.size + 1 + 1) #[.bool false] 4 ∧ RowAt w' w.heap.size #[.pointer (some ⟨b, 0, none⟩)] 59 ∧ Below w.heap.size w w' ∧ w'.heap.size = w.heap.size + 1 + 1 + 1 := by
  go_enter func110, ntmps110
  go_wp2
  go_ret
  exact ⟨rfl, (RowAt.new _ _ _ _ (by simp)).al _, RowAt.new _ _ _ _ (by simp), ((RowAt.new _ _ _ _ rfl).al _).al _, below_three _ _ _ _, by simp⟩
end Go.Proofs.YtbggkoahofnnjaaGreatDoor
