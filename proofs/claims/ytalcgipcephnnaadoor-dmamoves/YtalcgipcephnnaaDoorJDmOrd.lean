/-
  What dma's readOrder answers.
-/
import Derived.Test.YtalcgipcephnnaaDoorJDmReg
namespace Go.Proofs.YtalcgipcephnnaaDoor
open Go.RowKit
set_option linter.unusedVariables false
set_option linter.unusedSimpArgs false

theorem AreasAt.went {B : Nat} {O O' : Nat → Prop} {w w' : World} (h : AreasAt w) (hG : 1 < B) (hw : Went B O O' w w') : AreasAt w' := by
  intro d hd
  obtain ⟨h1, h2, h3⟩ := h d hd
  exact ⟨(hw.below.cell (p := ⟨1, d * 3, none⟩) hG).trans h1, (hw.below.cell (p := ⟨1, d * 3 + 1, none⟩) hG).trans h2, (hw.below.cell (p := ⟨1, d * 3 + 2, none⟩) hG).trans h3⟩
theorem inM_of {p x n : Nat} (h : inB p x n = true) : inM x = x - 2147483648 ∧ x - 2147483648 + n ≤ 4096 * p := by
  unfold inB at h
  have := of_decide_eq_true h
  unfold inM
  rw [if_pos this.1]
  exact ⟨rfl, this.2⟩
theorem inM_not {p x n : Nat} (hp : p ≤ 16384) (h : inB p x n = false) : 4096 * p < inM x + n := by
  unfold inB at h
  have := of_decide_eq_false h
  unfold inM
  split <;> omega
theorem cut_src {W : World} {g n a : Nat} {f : Nat → Nat} (h : HoldsAt W g n 5 (fun j => .int .u8 (f (a + j) : Nat))) (j : Nat) (v : Value) (hv : (byteV (cutF f a n))[j]? = some v) : W.cell? ⟨g, 0 + j, none⟩ = some v := by
  rw [Nat.zero_add]
  have hl : j < n := by
    rcases Nat.lt_or_ge j n with e | e
    · exact e
    · rw [List.getElem?_eq_none (by rw [byteV_len, cutF_len]; exact e)] at hv; cases hv
  rw [h.cell hl]
  rw [byteV_at (by rw [cutF_len]; exact hl), cutF_at hl] at hv
  exact hv
set_option maxHeartbeats 1000000 in
theorem mb_from {w : World} {B b p c : Nat} {f : Nat → Nat} {O : Nat → Prop} (h : RamB w B b p f c O) (hA : AreasAt w) (hG : 1 < B) (x y n : Nat) (hx : x < 4294967296) (hy : y < 4294967296) (hn : 0 < n) (hn2 : n ≤ 64) (h0 : inB p x n = false) : Calls Tryd.prog 61 #[.pointer (some ⟨b, 0, none⟩), .int .u32 (x : Nat), .int .u32 (y : Nat), .int .u32 (n : Nat)] w fun e w' => (∃ z : Int, e = .returned (.iface 69 (.int .i64 z))) ∧ ∃ O', RamB w' B b p f c O' ∧ Went B O O' w w' := by
  have HI := hide (fun x hx w hA => inmem_any x hx w hA)
  have hM := h
  have hW := Went.refl B O w
  have hB := h.base
  have hi : n ≤ 4294967295 := by omega
  clear h
  have HR : Hid (∀ W O1, RamB W B b p f c O1 → Calls Tryd.prog 20 #[.pointer (some ⟨b, 0, none⟩), .int .u32 (inM x : Nat), .int .i64 (n : Nat)] W fun e w' => e = .returned (.tuple #[.slice none 0 0, .iface 69 (.int .i64 4)]) ∧ w' = W) :=
    hide (fun W O1 hM => read_far_b hM (inM x) (inM_lt hx) n hn (by omega) (inM_not hM.few h0))
  go_enter Tryd.func61, Tryd.ntmps61
  go_wp2_with (first | (go_at_call 75; (with_reducible refine (HI.out _ (by assumption) _ hA).mono ?_); rintro e W ⟨rfl, hbc⟩; replace hM := hM.bl hbc; replace hW := hW.bl hbc hB; replace hA := hA.bl hbc; replace hB := Nat.le_trans hB hbc.size; (try replace hH := hH.bl hbc)) | (go_at_call 20; (with_reducible refine (HR.out _ _ hM).mono ?_); rintro e W2 ⟨rfl, rfl⟩))
  go_ret
  exact ⟨⟨_, rfl⟩, _, hM, hW⟩
set_option maxHeartbeats 1000000 in
theorem mb_to {w : World} {B b p c : Nat} {f : Nat → Nat} {O : Nat → Prop} (h : RamB w B b p f c O) (hA : AreasAt w) (hG : 1 < B) (x y n : Nat) (hx : x < 4294967296) (hy : y < 4294967296) (hn : 0 < n) (hn2 : n ≤ 64) (h0 : inB p x n = true) (h1 : inB p y n = false) : Calls Tryd.prog 61 #[.pointer (some ⟨b, 0, none⟩), .int .u32 (x : Nat), .int .u32 (y : Nat), .int .u32 (n : Nat)] w fun e w' => (∃ z : Int, e = .returned (.iface 69 (.int .i64 z))) ∧ ∃ O', RamB w' B b p f c O' ∧ Went B O O' w w' := by
  have HI := hide (fun x hx w hA => inmem_any x hx w hA)
  have hM := h
  have hW := Went.refl B O w
  have hB := h.base
  have hi : n ≤ 4294967295 := by omega
  clear h
  have HR : Hid (∀ W O1, RamB W B b p f c O1 → Calls Tryd.prog 20 #[.pointer (some ⟨b, 0, none⟩), .int .u32 (inM x : Nat), .int .i64 (n : Nat)] W fun e w' => e = .returned (.tuple #[.slice (some ⟨W.heap.size, 0, none⟩) n n, .nilIface]) ∧ HoldsAt w' W.heap.size n 5 (fun j => .int .u8 (f (x - 2147483648 + j) : Nat)) ∧ ∃ O', RamB w' B b p f c O' ∧ Went B O1 O' W w' ∧ ¬ O' W.heap.size) :=
    hide (fun W O1 hM => by
      have e := inM_of h0
      rw [e.1]
      exact read_b hM (x - 2147483648) (by omega) n hn e.2)
  have HWr : Hid (∀ W O1 g, RamB W B b p f c O1 → Calls Tryd.prog 31 #[.pointer (some ⟨b, 0, none⟩), .int .u32 (inM y : Nat), .slice (some ⟨g, 0, none⟩) n n] W fun e w' => e = .returned (.iface 69 (.int .i64 4)) ∧ w' = W) :=
    hide (fun W O1 g hM => write_far_b hM (inM y) (inM_lt hy) n hn (by omega) (inM_not hM.few h1) _ _)
  clear h0 h1
  go_enter Tryd.func61, Tryd.ntmps61
  go_wp2_with (first | (go_at_call 75; (with_reducible refine (HI.out _ (by assumption) _ hA).mono ?_); rintro e W ⟨rfl, hbc⟩; replace hM := hM.bl hbc; replace hW := hW.bl hbc hB; replace hA := hA.bl hbc; replace hB := Nat.le_trans hB hbc.size; (try replace hH := hH.bl hbc)) | (go_at_call 20; (with_reducible refine (HR.out _ _ hM).mono ?_); rintro e W2 ⟨rfl, hH, O2, hM2, hW2, hno⟩; replace hA := hA.went hG hW2; replace hW := hW.trans hW2; replace hB := Nat.le_trans hB hW2.size; replace hM := hM2; clear hM2 hW2) | (go_at_call 31; (with_reducible refine (HWr.out _ _ _ hM).mono ?_); rintro e W3 ⟨rfl, rfl⟩))
  go_ret
  exact ⟨⟨_, rfl⟩, _, hM, hW⟩
set_option maxHeartbeats 1000000 in
theorem mb_ok {w : World} {B b p c : Nat} {f : Nat → Nat} {O : Nat → Prop} (h : RamB w B b p f c O) (hA : AreasAt w) (hG : 1 < B) (x y n : Nat) (hx : x < 4294967296) (hy : y < 4294967296) (hn : 0 < n) (hn2 : n ≤ 64) (h0 : inB p x n = true) (h1 : inB p y n = true) (hc : c ≤ 1000000) : Calls Tryd.prog 61 #[.pointer (some ⟨b, 0, none⟩), .int .u32 (x : Nat), .int .u32 (y : Nat), .int .u32 (n : Nat)] w fun e w' => e = .returned .nilIface ∧ ∃ O', RamB w' B b p (wroteF f (y - 2147483648) (cutF f (x - 2147483648) n)) (c + 1) O' ∧ Went B O O' w w' := by
  have HI := hide (fun x hx w hA => inmem_any x hx w hA)
  have hM := h
  have hW := Went.refl B O w
  have hB := h.base
  have hi : n ≤ 4294967295 := by omega
  clear h
  have HR : Hid (∀ W O1, RamB W B b p f c O1 → Calls Tryd.prog 20 #[.pointer (some ⟨b, 0, none⟩), .int .u32 (inM x : Nat), .int .i64 (n : Nat)] W fun e w' => e = .returned (.tuple #[.slice (some ⟨W.heap.size, 0, none⟩) n n, .nilIface]) ∧ HoldsAt w' W.heap.size n 5 (fun j => .int .u8 (f (x - 2147483648 + j) : Nat)) ∧ ∃ O', RamB w' B b p f c O' ∧ Went B O1 O' W w' ∧ ¬ O' W.heap.size) :=
    hide (fun W O1 hM => by
      have e := inM_of h0
      rw [e.1]
      exact read_b hM (x - 2147483648) (by omega) n hn e.2)
  have HWr : Hid (∀ W O1 g, RamB W B b p f c O1 → HoldsAt W g n 5 (fun j => .int .u8 (f (x - 2147483648 + j) : Nat)) → ¬ O1 g → Calls Tryd.prog 31 #[.pointer (some ⟨b, 0, none⟩), .int .u32 (inM y : Nat), .slice (some ⟨g, 0, none⟩) n n] W fun e w' => e = .returned .nilIface ∧ ∃ O', RamB w' B b p (wroteF f (y - 2147483648) (cutF f (x - 2147483648) n)) (c + 1) O' ∧ Went B O1 O' W w') :=
    hide (fun W O1 g hM hH hno => by
      have e := inM_of h1
      rw [e.1]
      exact write_b hM (y - 2147483648) (by omega) (cutF f (x - 2147483648) n) (cutF_small hM.small _ _) n (cutF_len _ _ _) hn e.2 g 0 n (Nat.le_refl _) (cut_src hH) hH.lt hno hc)
  clear h0 h1 hc
  go_enter Tryd.func61, Tryd.ntmps61
  go_wp2_with (first | (go_at_call 75; (with_reducible refine (HI.out _ (by assumption) _ hA).mono ?_); rintro e W ⟨rfl, hbc⟩; replace hM := hM.bl hbc; replace hW := hW.bl hbc hB; replace hA := hA.bl hbc; replace hB := Nat.le_trans hB hbc.size; (try replace hH := hH.bl hbc)) | (go_at_call 20; (with_reducible refine (HR.out _ _ hM).mono ?_); rintro e W2 ⟨rfl, hH, O2, hM2, hW2, hno⟩; replace hA := hA.went hG hW2; replace hW := hW.trans hW2; replace hB := Nat.le_trans hB hW2.size; replace hM := hM2; clear hM2 hW2) | (go_at_call 31; (with_reducible refine (HWr.out _ _ _ hM hH hno).mono ?_); rintro e W3 ⟨rfl, O3, hM3, hW3⟩; replace hW := hW.trans hW3))
  go_ret
  exact ⟨rfl, _, hM3, hW⟩
/-- The words of the order at a. -/
def wordsF (f : Nat → Nat) (a : Nat) : Nat → Nat := fun i => numF f (a + 4 * i) 4
def untilF (f : Nat → Nat) (a k : Nat) : Nat → Nat := fun i => if i < k then wordsF f a i else 0
theorem until_step (f : Nat → Nat) (a k : Nat) (hk : k < 4) : ordV (upd (untilF f a k) k (wordsF f a k)) = ordV (untilF f a (k + 1)) := by
  rcases k with _ | _ | _ | _ | k
  all_goals first | (simp [ordV, upd, untilF]; done) | omega
theorem until_four (f : Nat → Nat) (a : Nat) : ordV (untilF f a 4) = ordV (wordsF f a) := by simp [ordV, untilF]
theorem until_none (f : Nat → Nat) (a : Nat) : ordV (fun _ => 0) = ordV (untilF f a 0) := by simp [ordV, untilF]
def ordOk (p x : Nat) : Bool := decide (x % 4 = 0) && inB p x 16
/-- How far the reading of an order at x comes. -/
def readN (p x : Nat) : Nat := if x % 4 ≠ 0 then 0 else if inB p x 4 = false then 0 else if inB p x 8 = false then 1 else if inB p x 12 = false then 2 else if inB p x 16 = false then 3 else 4
theorem readN_ok {p x : Nat} (h : ordOk p x = true) : readN p x = 4 := by
  unfold ordOk inB at h
  simp only [Bool.and_eq_true, decide_eq_true_eq] at h
  unfold readN inB
  rw [if_neg (by omega), if_neg (by simp; omega), if_neg (by simp; omega), if_neg (by simp; omega), if_neg (by simp; omega)]
theorem readN_no {p x : Nat} (h : ordOk p x = false) : readN p x < 4 := by
  unfold readN
  repeat' split
  all_goals first | omega | skip
  exfalso
  unfold ordOk at h
  simp_all
theorem readN_in {p x k : Nat} (h : k < readN p x) : x % 4 = 0 ∧ 2147483648 ≤ x ∧ x - 2147483648 + 4 * k + 4 ≤ 4096 * p := by
  unfold readN inB at h
  repeat' split at h
  all_goals (try omega)
  all_goals
    simp only [decide_eq_false_iff_not, ne_eq, Decidable.not_not] at *
    omega
theorem readN_out {p x : Nat} (hp : p ≤ 16384) (h : readN p x < 4) (hx : x < 4294967296) : 4096 * p < inM x + 4 * readN p x + 4 ∨ (inM x + 4 * readN p x) % 4 ≠ 0 := by
  unfold readN inB inM at *
  repeat' split at h
  all_goals (try omega)
  all_goals
    simp only [decide_eq_false_iff_not, ne_eq, Decidable.not_not] at *
    repeat' split
    all_goals omega
end Go.Proofs.YtalcgipcephnnaaDoor
namespace Go.Proofs.YtalcgipcephnnaaDoor
open Go.RowKit
set_option linter.unusedVariables false
set_option linter.unusedSimpArgs false

theorem AreasAt.only2 {w W : World} {g : Nat} (h : AreasAt w) (ho : Only g w W) (hg : 1 < g) : AreasAt W := by
  have e : W.heap[1]? = w.heap[1]? := ho.row _ (by omega)
  intro d hd
  obtain ⟨h1, h2, h3⟩ := h d hd
  exact ⟨(cell_of_heap e _).trans h1, (cell_of_heap e _).trans h2, (cell_of_heap e _).trans h3⟩
set_option maxHeartbeats 2000000 in
theorem ro_ok {w : World} {B b p c : Nat} {f : Nat → Nat} {O : Nat → Prop} (h : RamB w B b p f c O) (hA : AreasAt w) (hG : 1 < B) (x : Nat) (hx : x < 4294967296) (h0 : ordOk p x = true) : Calls Tryd.prog 63 #[.pointer (some ⟨b, 0, none⟩), .int .u32 (x : Nat)] w fun e w' => e = .returned (.tuple #[.agg (ordV (wordsF f (x - 2147483648))), .nilIface]) ∧ ∃ O', RamB w' B b p f c O' ∧ Went B O O' w w' := by
  have hB0 := h.base
  have hGw : 1 < w.heap.size := Nat.lt_of_lt_of_le hG hB0
  have HH := hide h
  have hA0 := hA
  clear hA
  obtain ⟨av, hav⟩ : ∃ a, x - 2147483648 = a := ⟨_, rfl⟩
  have hNn := readN_ok h0
  have h3 := readN_in (p := p) (x := x) (k := 3) (by omega)
  have hfew := h.few
  have hin : inM x = av := by unfold inM; rw [if_pos h3.2.1]; exact hav
  have hav4 : av % 4 = 0 := by omega
  have hav9 : av + 16 ≤ 4096 * p := by omega
  have havl : av ≤ 67108864 := by omega
  rw [hav]
  have HI := hide (fun w hA => inmem_any x hx w hA)
  rw [hin] at HI
  clear h hNn h3 h0 hin hav
  go_enter Tryd.func63, Tryd.ntmps63
  go_wp2_with (first | ((with_reducible refine al_od w.heap.size ?_ ?_); exact rfl; intro W hr hb hz) | ((with_reducible refine al_od (w.heap.size + 1) ?_ ?_); exact hz.out; intro W hq hb' hz'; replace hr := hr.bl (hz.out ▸ hb'); replace hb := hb.trans (hb'.mono (by omega)); replace hz := hz'))
  go_loopw [10] (fun iv wr => ∃ (k : Nat) (O1 : Nat → Prop), k ≤ 4 ∧ iv = .int .i64 (k : Nat) ∧ RamB wr B b p f c O1 ∧ Went B O O1 w wr ∧ AreasAt wr ∧ RowAt wr w.heap.size (ordV (fun _ => 0)) 132 ∧ RowAt wr (w.heap.size + 1) (ordV (untilF f av k)) 132 ∧ FarB O1 w.heap.size 2 ∧ w.heap.size + 2 ≤ wr.heap.size) (fun iv _ => 4 - (intOf iv).toNat)
  case atStart =>
    have hbw : Below w.heap.size w W := hb
    exact ⟨0, O, Nat.zero_le _, rfl, HH.out.bl hbw, Went.of hbw hB0, hA0.bl hbw, hr, (until_none f av) ▸ hq, HH.out.far 2, by have := hz.out; omega⟩
  case round =>
    clear hr hq hb hz hb' hz'
    obtain ⟨k, O1, hk, rfl, hM, hW, hA, hr, hq, hF, hS⟩ := hrel
    have hB : B ≤ wr.heap.size := by omega
    by_cases hlt : k < 4
    · have hk4 : k < 4 := hlt
      have HL : Hid (∀ W O1 (z : Int), RamB W B b p f c O1 → z = ((av + 4 * k : Nat) : Int) → Calls Tryd.prog 76 #[.pointer (some ⟨b, 0, none⟩), .int .u32 z, .int .i64 4] W fun e w' => e = .returned (.tuple #[.int .u32 (wordsF f av k : Nat), .nilIface]) ∧ ∃ O', RamB w' B b p f c O' ∧ Went B O1 O' W w') :=
        hide (fun W O1 z hM hz => by rw [hz]; exact load_b hM (av + 4 * k) 4 (by omega) (by omega) (by omega) (by omega))
      go_wp2_with (first | (go_at_call 75; (with_reducible refine (HI.out _ hA).mono ?_); rintro e W ⟨rfl, hbc⟩; replace hM := hM.bl hbc; replace hW := hW.bl hbc hB; replace hA := hA.bl hbc; replace hB := Nat.le_trans hB hbc.size; replace hS := Nat.le_trans hS hbc.size; replace hr := hr.bl hbc; replace hq := hq.bl hbc) | (go_at_call 76; (with_reducible refine (HL.out _ _ _ hM ?_).mono ?_); (first | omega | (simp; omega)); rintro e W2 ⟨rfl, O2, hM2, hW2⟩; replace hr := hW2.row hr (hF.at 0 (by omega)); replace hq := hW2.row hq (hF.at 1 (by omega)); replace hA := hA.went hG hW2; replace hF := hF.went hW2 hS; replace hS := Nat.le_trans hS hW2.size; replace hW := hW.trans hW2; replace hB := Nat.le_trans hB hW2.size; replace hM := hM2; clear hM2 hW2) | ((with_reducible refine st_oi (w.heap.size + 1) k _ (wordsF f av k) hk4 hq ?_ ?_ ?_); exact rfl; exact rfl; intro W hnew ho; replace hr := hr.only ho (by omega); replace hM := hM.only ho (hF.at 1 (by omega)); replace hA := hA.only2 ho (by omega); replace hW := hW.only ho (by omega) (by omega); replace hS := (show w.heap.size + 2 ≤ W.heap.size by rw [ho.size]; exact hS); replace hB := (show B ≤ W.heap.size by rw [ho.size]; exact hB); replace hq := (until_step f av k hk4) ▸ hnew))
      go_roundw
      case rel => exact ⟨k + 1, _, hlt, by go_num, hM, hW, hA, hr, hq, hF, hS⟩
      case measure => show 4 - (((k : Int) + 1)).toNat < 4 - ((k : Int)).toNat; omega
    · obtain rfl : k = 4 := by omega
      replace hq := (until_four f av) ▸ hq
      go_wp2_with (first | ((with_reducible refine ld_od (w.heap.size + 1) _ hq ?_ ?_); exact rfl) | ((with_reducible refine st_od w.heap.size _ (wordsF f av) hr ?_ ?_ ?_); exact rfl; exact rfl; intro W hnew ho; replace hq := hq.only ho (by omega); replace hM := hM.only ho (hF.at 0 (by omega)); replace hW := hW.only ho (by omega) (by omega); replace hr := hnew))
      refine bodyPost_ret (results_cell_one Tryd.results63 _ _ w.heap.size _ _ _ rfl hr Tryd.underlying132 rfl size_od) rfl ?_
      exact ⟨rfl, _, hM, hW⟩
set_option maxHeartbeats 2000000 in
theorem ro_no {w : World} {B b p c : Nat} {f : Nat → Nat} {O : Nat → Prop} (h : RamB w B b p f c O) (hA : AreasAt w) (hG : 1 < B) (x : Nat) (hx : x < 4294967296) (h0 : ordOk p x = false) : Calls Tryd.prog 63 #[.pointer (some ⟨b, 0, none⟩), .int .u32 (x : Nat)] w fun e w' => (∃ z : Int, e = .returned (.tuple #[.agg (ordV (fun _ => 0)), .iface 69 (.int .i64 z)])) ∧ ∃ O', RamB w' B b p f c O' ∧ Went B O O' w w' := by
  have hB0 := h.base
  have hGw : 1 < w.heap.size := Nat.lt_of_lt_of_le hG hB0
  have HH := hide h
  have hA0 := hA
  clear hA
  obtain ⟨av, hav⟩ : ∃ a, x - 2147483648 = a := ⟨_, rfl⟩
  obtain ⟨KN, hKN⟩ : ∃ k, readN p x = k := ⟨_, rfl⟩
  have hK4 : KN < 4 := by have := readN_no h0; omega
  have hfew := h.few
  obtain ⟨iv, hiv⟩ : ∃ a, inM x = a := ⟨_, rfl⟩
  have hiv2 : KN = 0 ∨ (iv = av ∧ av % 4 = 0 ∧ av + 4 * KN ≤ 4096 * p) := by
    rcases Nat.eq_zero_or_pos KN with e | e
    · exact .inl e
    · have h3 := readN_in (p := p) (x := x) (k := KN - 1) (by omega)
      refine .inr ⟨?_, by omega, by omega⟩
      rw [← hiv, ← hav]; unfold inM; rw [if_pos h3.2.1]
  have hbad : 4096 * p < iv + 4 * KN + 4 ∨ (iv + 4 * KN) % 4 ≠ 0 := by
    have := readN_out hfew (by omega) hx
    rw [hKN, hiv] at this; exact this
  have hil : iv < 4294967296 := hiv ▸ inM_lt hx
  have HI := hide (fun w hA => inmem_any x hx w hA)
  rw [hiv] at HI
  clear h hKN hiv h0 hav
  go_enter Tryd.func63, Tryd.ntmps63
  go_wp2_with (first | ((with_reducible refine al_od w.heap.size ?_ ?_); exact rfl; intro W hr hb hz) | ((with_reducible refine al_od (w.heap.size + 1) ?_ ?_); exact hz.out; intro W hq hb' hz'; replace hr := hr.bl (hz.out ▸ hb'); replace hb := hb.trans (hb'.mono (by omega)); replace hz := hz'))
  go_loopw [10] (fun iv wr => ∃ (k : Nat) (O1 : Nat → Prop), k ≤ KN ∧ iv = .int .i64 (k : Nat) ∧ RamB wr B b p f c O1 ∧ Went B O O1 w wr ∧ AreasAt wr ∧ RowAt wr w.heap.size (ordV (fun _ => 0)) 132 ∧ RowAt wr (w.heap.size + 1) (ordV (untilF f av k)) 132 ∧ FarB O1 w.heap.size 2 ∧ w.heap.size + 2 ≤ wr.heap.size) (fun iv _ => 4 - (intOf iv).toNat)
  case atStart =>
    have hbw : Below w.heap.size w W := hb
    exact ⟨0, O, Nat.zero_le _, rfl, HH.out.bl hbw, Went.of hbw hB0, hA0.bl hbw, hr, (until_none f av) ▸ hq, HH.out.far 2, by have := hz.out; omega⟩
  case round =>
    clear hr hq hb hz hb' hz'
    obtain ⟨k, O1, hk, rfl, hM, hW, hA, hr, hq, hF, hS⟩ := hrel
    have hB : B ≤ wr.heap.size := by omega
    by_cases hlt : k < KN
    · have hk4 : k < 4 := by omega
      have hiv3 : iv = av ∧ av % 4 = 0 ∧ av + 4 * KN ≤ 4096 * p := hiv2.resolve_left (by omega)
      have havl : iv ≤ 67108864 := by omega
      have HL : Hid (∀ W O1 (z : Int), RamB W B b p f c O1 → z = ((iv + 4 * k : Nat) : Int) → Calls Tryd.prog 76 #[.pointer (some ⟨b, 0, none⟩), .int .u32 z, .int .i64 4] W fun e w' => e = .returned (.tuple #[.int .u32 (wordsF f av k : Nat), .nilIface]) ∧ ∃ O', RamB w' B b p f c O' ∧ Went B O1 O' W w') :=
        hide (fun W O1 z hM hz => by rw [hz, hiv3.1]; exact load_b hM (av + 4 * k) 4 (by omega) (by omega) (by omega) (by omega))
      go_wp2_with (first | (go_at_call 75; (with_reducible refine (HI.out _ hA).mono ?_); rintro e W ⟨rfl, hbc⟩; replace hM := hM.bl hbc; replace hW := hW.bl hbc hB; replace hA := hA.bl hbc; replace hB := Nat.le_trans hB hbc.size; replace hS := Nat.le_trans hS hbc.size; replace hr := hr.bl hbc; replace hq := hq.bl hbc) | (go_at_call 76; (with_reducible refine (HL.out _ _ _ hM ?_).mono ?_); (first | omega | (simp; omega)); rintro e W2 ⟨rfl, O2, hM2, hW2⟩; replace hr := hW2.row hr (hF.at 0 (by omega)); replace hq := hW2.row hq (hF.at 1 (by omega)); replace hA := hA.went hG hW2; replace hF := hF.went hW2 hS; replace hS := Nat.le_trans hS hW2.size; replace hW := hW.trans hW2; replace hB := Nat.le_trans hB hW2.size; replace hM := hM2; clear hM2 hW2) | ((with_reducible refine st_oi (w.heap.size + 1) k _ (wordsF f av k) hk4 hq ?_ ?_ ?_); exact rfl; exact rfl; intro W hnew ho; replace hr := hr.only ho (by omega); replace hM := hM.only ho (hF.at 1 (by omega)); replace hA := hA.only2 ho (by omega); replace hW := hW.only ho (by omega) (by omega); replace hS := (show w.heap.size + 2 ≤ W.heap.size by rw [ho.size]; exact hS); replace hB := (show B ≤ W.heap.size by rw [ho.size]; exact hB); replace hq := (until_step f av k hk4) ▸ hnew))
      go_roundw
      case rel => exact ⟨k + 1, _, hlt, by go_num, hM, hW, hA, hr, hq, hF, hS⟩
      case measure => show 4 - (((k : Int) + 1)).toNat < 4 - ((k : Int)).toNat; omega
    · obtain rfl : k = KN := by omega
      have hk4 : k < 4 := hK4
      have hk5 : (k : Int) < 4 := by omega
      have hbig : k = 0 ∨ iv ≤ 67108864 := hiv2.imp id (fun e => by omega)
      have HL : Hid (∀ W O1 (z : Int), RamB W B b p f c O1 → z = ((iv + 4 * k : Nat) : Int) % 4294967296 → Calls Tryd.prog 76 #[.pointer (some ⟨b, 0, none⟩), .int .u32 z, .int .i64 4] W fun e w' => (∃ z : Int, e = .returned (.tuple #[.int .u32 0, .iface 69 (.int .i64 z)])) ∧ w' = W) :=
        hide (fun W O1 z hM hz => by
          rw [hz, show ((iv + 4 * k : Nat) : Int) % 4294967296 = ((iv + 4 * k : Nat) : Int) by omega]
          exact load_bad_b hM (iv + 4 * k) 4 (by omega) hbad (by omega))
      go_wp2_with (first | (go_at_call 75; (with_reducible refine (HI.out _ hA).mono ?_); rintro e W ⟨rfl, hbc⟩; replace hM := hM.bl hbc; replace hW := hW.bl hbc hB; replace hA := hA.bl hbc; replace hB := Nat.le_trans hB hbc.size; replace hS := Nat.le_trans hS hbc.size; replace hr := hr.bl hbc; replace hq := hq.bl hbc) | (go_at_call 76; (with_reducible refine (HL.out _ _ _ hM ?_).mono ?_); (first | omega | (simp; omega)); rintro e W2 ⟨⟨z, rfl⟩, rfl⟩) | ((with_reducible refine st_od w.heap.size _ (fun _ => 0) hr ?_ ?_ ?_); exact rfl; exact rfl; intro W hnew ho; replace hq := hq.only ho (by omega); replace hM := hM.only ho (hF.at 0 (by omega)); replace hW := hW.only ho (by omega) (by omega); replace hr := hnew))
      refine bodyPost_ret (results_cell_one Tryd.results63 _ _ w.heap.size _ _ _ rfl hr Tryd.underlying132 rfl size_od) rfl ?_
      exact ⟨⟨_, rfl⟩, _, hM, hW⟩
end Go.Proofs.YtalcgipcephnnaaDoor
