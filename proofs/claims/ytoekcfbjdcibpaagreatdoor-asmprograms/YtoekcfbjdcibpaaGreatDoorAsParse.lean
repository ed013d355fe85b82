/-
  What asm.Parse answers, whatever is handed in.
-/
import Derived.Test.YtoekcfbjdcibpaaGreatDoorAsGuess
import Derived.Test.YtoekcfbjdcibpaaGreatDoorAsTextW
import Derived.Test.YtoekcfbjdcibpaaGreatDoorRes
import Derived.Test.YtoekcfbjdcibpaaGreatDoorInNm
namespace Go.Proofs.YtoekcfbjdcibpaaGreatDoor
open Go.RowKit
set_option linter.unusedVariables false

def noI : I6 := ⟨0, 0, 0, 0, 0, 0⟩
def parseI (s : Str) : I6 := (parseL s).getD noI
def parseN (s : Str) : Int := match parseL s with | some _ => 0 | none => 3

theorem cut_any (s : Str) (hs : s.length ≤ 100000) (c : UInt8) (w : World) (h : LenAt w) :
    Calls Tryz.prog 33 #[.string ⟨s.toArray⟩, .string ⟨#[c]⟩] w fun e w' => e = .returned (.tuple #[.string ⟨(Lib.cut s [c]).1.toArray⟩, .string ⟨(Lib.cut s [c]).2.1.toArray⟩, .bool (Lib.cut s [c]).2.2]) ∧ Below w.heap.size w w' := by
  obtain ⟨m, hm⟩ := h
  refine (Tryz.strings_Cut ⟨s.toArray⟩ ⟨#[c]⟩ m w (by simp [ByteArray.size]; omega) hm).mono ?_
  rintro e w' ⟨rfl, n, rfl⟩
  exact ⟨rfl, below_drewS w n⟩

theorem cut_len (s : Str) (c : UInt8) : (Lib.cut s [c]).1.length ≤ s.length ∧ (Lib.cut s [c]).2.1.length ≤ s.length := by
  unfold Lib.cut
  split
  · simp only [List.length_take, List.length_drop]; omega
  · simp

set_option maxHeartbeats 2000000 in
set_option maxRecDepth 100000 in
theorem parse_none (s : Str) (hs : s.length ≤ 100000) (h : findS (Lib.cut s [32]).1 = none) (w : World) (hA : AsAt w) :
    Calls Tryz.prog 13 #[.string ⟨s.toArray⟩] w fun e w' => e = .returned (.tuple #[.agg noI.cells, .iface 69 (.int .i64 3)]) ∧ Below w.heap.size w w' := by
  have HC := hide (cut_any s hs 32)
  have HF := hide (fun w h' => find_all ⟨(Lib.cut s [32]).1.toArray⟩ w h')
  have e1 : fndOp ⟨(Lib.cut s [32]).1.toArray⟩ = none := h
  simp only [fndK, fndN, e1, errno_pos 6 (by decide)] at HF
  have HA := hide hA
  clear hA e1 h
  generalize (Lib.cut s [32]).1 = nm at *
  generalize (Lib.cut s [32]).2.1 = rest at *
  generalize (Lib.cut s [32]).2.2 = b at *
  simp only [I6.cells, noI]
  go_enter Tryz.func13, Tryz.ntmps13
  go_wp2_with (first | (go_at_call 33; refine (HC.out _ (HA.out.below (below_box w _)).len).mono ?_; rintro e w2 ⟨rfl, hx2⟩; have HB2 := hide (below_new hx2); have hrow := hide ((hx2.block w.heap.size (by simp)).trans (heap_alloc_new w _)); clear hx2) | (go_at_call 34; refine (HF.out _ (HA.out.below HB2.out).tabs).mono ?_; rintro e w3 ⟨rfl, rfl⟩) | (refine wpList_store_row rfl 28 _ _ rfl w.heap.size _ rfl rfl _ _ hrow.out size_inst rfl (six_one _ _ _ _ _ _) ?_))
  refine bodyPost_ret (results_cell_tmp_row Tryz.results13 _ _ w.heap.size _ _ _ _ rfl (setRow_heap _ _ _ _ _ _ hrow.out) Tryz.underlying28 rfl size_inst) rfl ?_
  exact ⟨rfl, below_setRow HB2.out (Nat.le_refl _) _⟩

set_option maxHeartbeats 4000000 in
set_option maxRecDepth 100000 in
theorem parse_op (s : Str) (hs : s.length ≤ 100000) (op : Nat) (h : findS (Lib.cut s [32]).1 = some op) (w : World) (hA : AsAt w) (q : I6) (hq : guessL op (Lib.cut s [32]).2.1 = q) (ok : Bool) (hok : decide (encOk q = true ∧ textL q = s) = ok) :
    Calls Tryz.prog 13 #[.string ⟨s.toArray⟩] w fun e w' => e = .returned (.tuple #[.agg (if ok = true then q else noI).cells, if ok = true then .nilIface else .iface 69 (.int .i64 3)]) ∧ Below w.heap.size w w' := by
  have HC := hide (cut_any s hs 32)
  have HF := hide (fun w h' => find_all ⟨(Lib.cut s [32]).1.toArray⟩ w h')
  have e1 : fndOp ⟨(Lib.cut s [32]).1.toArray⟩ = some op := h
  simp only [fndK, fndN, e1, errno_zero] at HF
  have hop : op < 57 := (fndOp_some e1).1
  have HG := hide (guess_any op hop (Lib.cut s [32]).2.1 (by have := (cut_len s 32).2; omega))
  rw [hq] at HG
  have HT := hide (text_all q)
  have HA := hide hA
  clear hA e1 h hop hq
  generalize (Lib.cut s [32]).1 = nm at *
  generalize (Lib.cut s [32]).2.1 = rest at *
  generalize (Lib.cut s [32]).2.2 = b at *
  by_cases hen : encOk q = true
  · rw [if_pos hen, show encN q = 0 by unfold encN; rw [if_pos hen], errno_zero] at HT
    by_cases hte : textL q = s
    · obtain rfl : ok = true := by rw [← hok]; simp [hen, hte]
      rw [hte] at HT
      clear hok hte hen
      obtain ⟨o, rd, rs1, rs2, imm, csr⟩ := q
      simp only [I6.cells, if_true] at HG HT ⊢
      go_enter Tryz.func13, Tryz.ntmps13
      go_wp2_with (first | (go_at_call 33; refine (HC.out _ (HA.out.below (below_box w _)).len).mono ?_; rintro e w2 ⟨rfl, hx2⟩; have HB2 := hide (below_new hx2); have hrow := hide ((hx2.block w.heap.size (by simp)).trans (heap_alloc_new w _)); clear hx2) | (go_at_call 34; refine (HF.out _ (HA.out.below HB2.out).tabs).mono ?_; rintro e w3 ⟨rfl, rfl⟩) | (go_at_call 35; refine (HG.out _ (HA.out.below HB2.out)).mono ?_; rintro e w4 ⟨rfl, hx4⟩; have hrow4 := hide ((hx4.block w.heap.size (Array.getElem?_eq_some_iff.1 hrow.out).1).trans hrow.out); have HB4 := hide (HB2.out.trans (hx4.mono HB2.out.size)); clear hrow HB2 hx4) | (go_at_call 9; refine (HT.out _ (HA.out.below (HB4.out.trans ((below_box w4 _).mono HB4.out.size)))).mono ?_; rintro e w5 ⟨rfl, hx5⟩; have hrow := hide ((hx5.block w.heap.size (by have := (Array.getElem?_eq_some_iff.1 hrow4.out).1; simp; omega)).trans ((Below.heap_alloc _ _ _ (Array.getElem?_eq_some_iff.1 hrow4.out).1).trans hrow4.out)); have HB5 := hide (HB4.out.trans ((below_new hx5).mono HB4.out.size)); obtain ⟨c0, c1, c2, c3, c4, c5⟩ := (SixAt.new w4 ⟨o, rd, rs1, rs2, imm, csr⟩ 28).below hx5 (by simp); simp only at c0 c1 c2 c3 c4 c5; clear hrow4 HB4 hx5) | (refine wpList_store_row rfl 28 _ _ rfl w.heap.size _ rfl rfl _ _ hrow.out size_inst rfl (six_one _ _ _ _ _ _) ?_))
      refine bodyPost_ret (results_cell_tmp_row Tryz.results13 _ _ w.heap.size _ _ _ _ rfl (setRow_heap _ _ _ _ _ _ hrow.out) Tryz.underlying28 rfl size_inst) rfl ?_
      exact ⟨rfl, below_setRow HB5.out (Nat.le_refl _) _⟩
    · obtain rfl : ok = false := by rw [← hok]; simp [hen, hte]
      have hne : (textL q == s) = false := by simpa using hte
      clear hok hen
      generalize textL q = tx at *
      obtain ⟨o, rd, rs1, rs2, imm, csr⟩ := q
      simp only [I6.cells, noI, Bool.false_eq_true, if_false] at HG HT ⊢
      go_enter Tryz.func13, Tryz.ntmps13
      go_wp2_with (first | (go_at_call 33; refine (HC.out _ (HA.out.below (below_box w _)).len).mono ?_; rintro e w2 ⟨rfl, hx2⟩; have HB2 := hide (below_new hx2); have hrow := hide ((hx2.block w.heap.size (by simp)).trans (heap_alloc_new w _)); clear hx2) | (go_at_call 34; refine (HF.out _ (HA.out.below HB2.out).tabs).mono ?_; rintro e w3 ⟨rfl, rfl⟩) | (go_at_call 35; refine (HG.out _ (HA.out.below HB2.out)).mono ?_; rintro e w4 ⟨rfl, hx4⟩; have hrow4 := hide ((hx4.block w.heap.size (Array.getElem?_eq_some_iff.1 hrow.out).1).trans hrow.out); have HB4 := hide (HB2.out.trans (hx4.mono HB2.out.size)); clear hrow HB2 hx4) | (go_at_call 9; refine (HT.out _ (HA.out.below (HB4.out.trans ((below_box w4 _).mono HB4.out.size)))).mono ?_; rintro e w5 ⟨rfl, hx5⟩; have hrow := hide ((hx5.block w.heap.size (by have := (Array.getElem?_eq_some_iff.1 hrow4.out).1; simp; omega)).trans ((Below.heap_alloc _ _ _ (Array.getElem?_eq_some_iff.1 hrow4.out).1).trans hrow4.out)); have HB5 := hide (HB4.out.trans ((below_new hx5).mono HB4.out.size)); obtain ⟨c0, c1, c2, c3, c4, c5⟩ := (SixAt.new w4 ⟨o, rd, rs1, rs2, imm, csr⟩ 28).below hx5 (by simp); simp only at c0 c1 c2 c3 c4 c5; clear hrow4 HB4 hx5) | (refine wpList_store_row rfl 28 _ _ rfl w.heap.size _ rfl rfl _ _ hrow.out size_inst rfl (six_one _ _ _ _ _ _) ?_))
      refine bodyPost_ret (results_cell_tmp_row Tryz.results13 _ _ w.heap.size _ _ _ _ rfl (setRow_heap _ _ _ _ _ _ hrow.out) Tryz.underlying28 rfl size_inst) rfl ?_
      exact ⟨rfl, below_setRow HB5.out (Nat.le_refl _) _⟩
  · have hen' : encOk q = false := by simpa using hen
    obtain rfl : ok = false := by rw [← hok]; simp [hen]
    rw [if_neg hen, show encN q = 1 by unfold encN; rw [if_neg hen], errno_pos 1 (by decide)] at HT
    clear hok hen hen'
    obtain ⟨o, rd, rs1, rs2, imm, csr⟩ := q
    simp only [I6.cells, noI, Bool.false_eq_true, if_false] at HG HT ⊢
    go_enter Tryz.func13, Tryz.ntmps13
    go_wp2_with (first | (go_at_call 33; refine (HC.out _ (HA.out.below (below_box w _)).len).mono ?_; rintro e w2 ⟨rfl, hx2⟩; have HB2 := hide (below_new hx2); have hrow := hide ((hx2.block w.heap.size (by simp)).trans (heap_alloc_new w _)); clear hx2) | (go_at_call 34; refine (HF.out _ (HA.out.below HB2.out).tabs).mono ?_; rintro e w3 ⟨rfl, rfl⟩) | (go_at_call 35; refine (HG.out _ (HA.out.below HB2.out)).mono ?_; rintro e w4 ⟨rfl, hx4⟩; have hrow4 := hide ((hx4.block w.heap.size (Array.getElem?_eq_some_iff.1 hrow.out).1).trans hrow.out); have HB4 := hide (HB2.out.trans (hx4.mono HB2.out.size)); clear hrow HB2 hx4) | (go_at_call 9; refine (HT.out _ (HA.out.below (HB4.out.trans ((below_box w4 _).mono HB4.out.size)))).mono ?_; rintro e w5 ⟨rfl, hx5⟩; have hrow := hide ((hx5.block w.heap.size (by have := (Array.getElem?_eq_some_iff.1 hrow4.out).1; simp; omega)).trans ((Below.heap_alloc _ _ _ (Array.getElem?_eq_some_iff.1 hrow4.out).1).trans hrow4.out)); have HB5 := hide (HB4.out.trans ((below_new hx5).mono HB4.out.size)); obtain ⟨c0, c1, c2, c3, c4, c5⟩ := (SixAt.new w4 ⟨o, rd, rs1, rs2, imm, csr⟩ 28).below hx5 (by simp); simp only at c0 c1 c2 c3 c4 c5; clear hrow4 HB4 hx5) | (refine wpList_store_row rfl 28 _ _ rfl w.heap.size _ rfl rfl _ _ hrow.out size_inst rfl (six_one _ _ _ _ _ _) ?_))
    refine bodyPost_ret (results_cell_tmp_row Tryz.results13 _ _ w.heap.size _ _ _ _ rfl (setRow_heap _ _ _ _ _ _ hrow.out) Tryz.underlying28 rfl size_inst) rfl ?_
    exact ⟨rfl, below_setRow HB5.out (Nat.le_refl _) _⟩

theorem parse_all (s : Str) (hs : s.length ≤ 100000) (w : World) (hA : AsAt w) :
    Calls Tryz.prog 13 #[.string ⟨s.toArray⟩] w fun e w' => e = .returned (.tuple #[.agg (parseI s).cells, errno (parseN s)]) ∧ Below w.heap.size w w' := by
  unfold parseI parseN parseL
  cases h : findS (Lib.cut s [32]).1 with
  | none => exact parse_none s hs h w hA
  | some op =>
    simp only
    refine (parse_op s hs op h w hA _ rfl _ rfl).mono ?_
    rintro e w' ⟨rfl, hb⟩
    refine ⟨?_, hb⟩
    by_cases hc : encOk (guessL op (Lib.cut s [32]).2.1) = true ∧ textL (guessL op (Lib.cut s [32]).2.1) = s
    · rw [if_pos hc]; simp only [hc, and_self, decide_true, if_true, Option.getD_some]; rfl
    · rw [if_neg hc]; simp only [hc, decide_false, Bool.false_eq_true, if_false, Option.getD_none]; rfl
end Go.Proofs.YtoekcfbjdcibpaaGreatDoor
