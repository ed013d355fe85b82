/-
  What the document's Encode answers, a form whose number is laid bit by bit.
-/
import Derived.Test.YtccndehhbccmgaaDoorREncL
import Derived.Test.YtccndehhbccmgaaDoorRCheckA
import Derived.Test.YtccndehhbccmgaaDoorRCheckB
import Derived.Test.YtccndehhbccmgaaDoorREncM
import Derived.Test.YtccndehhbccmgaaDoorRNumber
namespace Go.Proofs.YtccndehhbccmgaaDoor
open Go.RowKit
set_option linter.unusedVariables false

set_option maxHeartbeats 4000000 in
set_option maxRecDepth 100000 in
theorem renc_S (op : Nat) (hop : op < 57) (W : Nat) (hWe : wordN op = W) (hW : W = W % 128 + W / 4096 % 8 * 4096) (rs1 rs2 : Nat) (imm : Int) (hrs1 : rs1 < 32) (hrs2 : rs2 < 32) (himm : -2048 ≤ imm ∧ imm ≤ 2047) (hk : kindN op = 83) (w : World) :
    Calls Tryd.prog 14 #[.agg #[.int .i64 op, .int .i64 0, .int .i64 ((rs1 : Nat) : Int), .int .i64 ((rs2 : Nat) : Int), .int .i64 imm, .int .i64 0]] w fun e w' => e = .returned (.tuple #[.int .u32 (laidK 83 W ⟨op, 0, ((rs1 : Nat) : Int), ((rs2 : Nat) : Int), imm, 0⟩ : Nat), .int .i64 0]) ∧ Below w.heap.size w w' := by
  have HK := hide (rkind_yes op hop)
  rw [hk] at HK
  have HC : Hid (∀ w, Calls Tryd.prog 16 #[.agg #[.int .i64 op, .int .i64 0, .int .i64 ((rs1 : Nat) : Int), .int .i64 ((rs2 : Nat) : Int), .int .i64 imm, .int .i64 0]] w fun e w' => e = .returned (.int .i64 0) ∧ Below w.heap.size w w') := fun w => by
    refine (rcheck_S op hop 0 ((rs1 : Nat) : Int) ((rs2 : Nat) : Int) imm 0 hk w).mono ?_
    rintro e w' ⟨⟨r, rfl, hr⟩, hb⟩
    rcases hr with ⟨rfl, _⟩ | ⟨_, hn⟩
    · exact ⟨rfl, hb⟩
    · exact absurd (by simp [ValidK] <;> omega) hn
  clear hk
  have HP := hide (rplain_any op hop)
  rw [hWe] at HP
  have HW := hide hW
  obtain ⟨i0, hi, hz0, hz1, hz2⟩ := info_parts infoInt
  clear hWe hW
  go_enter Tryd.func14, Tryd.ntmps14
  go_wp2_with (fail)
  obtain ⟨w0, hw0⟩ : ∃ w0, w.alloc (.cells #[.int .i64 op, .int .i64 0, .int .i64 ((rs1 : Nat) : Int), .int .i64 ((rs2 : Nat) : Int), .int .i64 imm, .int .i64 0] 29) = w0 := ⟨_, rfl⟩
  have HN0 : Hid (SixAt w0 w.heap.size ⟨op, 0, ((rs1 : Nat) : Int), ((rs2 : Nat) : Int), imm, 0⟩ ∧ Below w.heap.size w w0 ∧ w0.heap.size = w.heap.size + 1) := by
    rw [← hw0]; exact ⟨SixAt.new w ⟨op, 0, ((rs1 : Nat) : Int), ((rs2 : Nat) : Int), imm, 0⟩ _, (Below.refl _ w).alloc (Nat.le_refl _) _, by simp⟩
  rw [hw0]
  clear hw0
  refine (HC.out _).mono ?_
  rintro e w2 ⟨rfl, hb2⟩
  replace hb2 : Below (w.heap.size + 1) w0 w2 := by rw [← HN0.out.2.2]; exact hb2
  obtain ⟨c0, c1, c2, c3, c4, c5⟩ := HN0.out.1.below hb2 (by omega)
  simp only at c0 c1 c2 c3 c4 c5
  go_wp2_with (first | (go_at_call 22; refine (HK.out _).mono ?_; rintro e w3 ⟨rfl, rfl⟩))
  have hof : Off w0 (w.heap.size + 1) w3 := ⟨hb2, HN0.out.2.2⟩
  have hofd := hof.drew
  go_region_held3 (fun w' => w'.cell? ⟨w.heap.size, 0, none⟩ = some (.int .i64 op) ∧ w'.cell? ⟨w.heap.size, 1, none⟩ = some (.int .i64 0) ∧ w'.cell? ⟨w.heap.size, 2, none⟩ = some (.int .i64 ((rs1 : Nat) : Int)) ∧ w'.cell? ⟨w.heap.size, 3, none⟩ = some (.int .i64 ((rs2 : Nat) : Int)) ∧ w'.cell? ⟨w.heap.size, 4, none⟩ = some (.int .i64 imm) ∧ w'.cell? ⟨w.heap.size, 5, none⟩ = some (.int .i64 0) ∧ Off w0 (w.heap.size + 1) w') (go_keep)
    (first | (go_at_call 26; refine (Calls.six (g := w.heap.size) (n := w.heap.size + 1) (w0 := w0) (c0 := .int .i64 op) (c1 := .int .i64 0) (c2 := .int .i64 ((rs1 : Nat) : Int)) (c3 := .int .i64 ((rs2 : Nat) : Int)) (c4 := .int .i64 imm) (c5 := .int .i64 0) (by omega) ?_ (HP.out _)).mono ?_; (simp [*]); rintro e w' ⟨rfl, e0, e1, e2, e3, e4, e5, hoff⟩))
  go_wp2_with (fail)
  clear c0 c1 c2 c3 c4 c5 e0 e1 e2 e3 e4 e5 hof hofd
  have HOFF := hide hoff
  clear hoff
  have HBW : Hid (Below w.heap.size w w') := HN0.out.2.1.trans (HOFF.out.1.mono (by omega))
  clear hb2
  refine (down_any w'.heap.size (.slice none 0 0) [] 11 0 (by decide) (by decide) (by decide) w' (Own.nil _ _) (Nat.le_refl _)).mono ?_
  rintro e x2 ⟨lf, rfl, hf2, hb2⟩
  go_wp2_with (fail)
  refine (down_any x2.heap.size (.slice none 0 0) [] 31 25 (by decide) (by decide) (by decide) x2 (Own.nil _ _) (Nat.le_refl _)).mono ?_
  rintro e x3 ⟨l1, rfl, ho3, hb3⟩
  go_wp2_with (fail)
  refine (down_any x3.heap.size (.slice none 0 0) [] 11 7 (by decide) (by decide) (by decide) x3 (Own.nil _ _) (Nat.le_refl _)).mono ?_
  rintro e x4 ⟨l2, rfl, ho4, hb4⟩
  have hrow : x4.ownsRow x2.heap.size 3 1 l1 7 (intsOf (downK 31 7)) := ho3.keep hb4 (Nat.le_refl _)
  obtain ⟨g2, cap2, rfl, hn2⟩ := ho4.news (by decide)
  have HGE := hide (own_ge hrow)
  have hsz : x2.heap.size ≤ x4.heap.size := Nat.le_trans hb3.size hb4.size
  have HN2 : Hid (∀ j u, (intsOf (downK 11 5))[j]? = some u → x4.cell? ((⟨g2, 0, none⟩ : Addr).add j) = some u) := hn2
  clear hn2
  go_wp2_with (first | (at_builtin; refine wpList_append_own _ rfl _ _ 63 rfl x2.heap.size 3 i0 (.int .i64 0) 1 8 Tryd.underlying63 hi hz0 hz1 hz2 rfl (by decide) _ _ _ rfl hrow ⟨g2, 0, none⟩ 5 cap2 (intsOf (downK 11 5)) rfl rfl HN2.out (ints_one _) (by unfold maxLen; omega) (by omega) hsz ?_; intro v5 x5 hown5 hgrow5 _))
  have ho5 : Own x2.heap.size x5 v5 (downK 31 7 ++ downK 11 5) := by unfold Own; rw [intsOf_append]; exact hown5
  have hb5 : Below x2.heap.size x2 x5 := hb3.trans ((hb4.mono hb3.size).trans ((Below.refl _ x4).grown hgrow5 hsz HGE.out))
  have hf5 := hf2.keep hb5 (Nat.le_refl _)
  have HBX : Hid (Below w.heap.size w x5) := HBW.out.trans ((hb2.mono HBW.out.size).trans (hb5.mono (Nat.le_trans HBW.out.size hb2.size)))
  obtain ⟨gf, capf, rfl, hcapf, hcf⟩ := hf5.cellsN 12 rfl (by decide)
  obtain ⟨gt, capt, rfl, hcapt, hct⟩ := ho5.cellsN 12 rfl (by decide)
  have HCF : Hid (∀ j, j < 12 → x5.cell? ⟨gf, j, none⟩ = some (.int .i64 ((downK 11 12).getD j 0 : Nat))) := hcf
  have HCT : Hid (∀ j, j < 12 → x5.cell? ⟨gt, j, none⟩ = some (.int .i64 ((downK 31 7 ++ downK 11 5).getD j 0 : Nat))) := hct
  clear hcf hct hf5 ho5 hf2 ho3 ho4 hown5 hgrow5 hrow hsz hb2 hb3 hb4 hb5
  rw [← u32N_cast imm]
  have hul := u32N_lt imm
  have HBIT := hide (bit_any (u32N imm) hul)
  have HSET := hide rset_bit
  have HLT := hide (layF_lt (u32N imm) (downK 11 12) (downK 31 7 ++ downK 11 5) (W + rs1 * 32768 + rs2 * 1048576))
  have HB : Hid (W + rs1 * 32768 + rs2 * 1048576 < 4294967296) := by have := HW.out; show _ < _; omega
  have HBL := hide (fun p => bitN_le (u32N imm) p)
  have HGF := hide (block_lt_of_cell (HCF.out 0 (by decide)))
  have HGT := hide (block_lt_of_cell (HCT.out 0 (by decide)))
  have HL0 : Hid (layF (u32N imm) (downK 11 12) (downK 31 7 ++ downK 11 5) (W + rs1 * 32768 + rs2 * 1048576) 0 = W + rs1 * 32768 + rs2 * 1048576) := rfl
  have HLS : Hid (∀ j, layF (u32N imm) (downK 11 12) (downK 31 7 ++ downK 11 5) (W + rs1 * 32768 + rs2 * 1048576) (j + 1) = setW (layF (u32N imm) (downK 11 12) (downK 31 7 ++ downK 11 5) (W + rs1 * 32768 + rs2 * 1048576) j) ((downK 31 7 ++ downK 11 5).getD j 0 : Nat) (1 : Nat) (bitN (u32N imm) ((downK 11 12).getD j 0 : Nat))) := fun _ => rfl
  have HLL : Hid (∀ j, layF (u32N imm) (downK 11 12) (downK 31 7 ++ downK 11 5) (W + rs1 * 32768 + rs2 * 1048576) j < 4294967296) := HLT.out HB.out
  have HEND := hide (lay_S W HW.out op rs1 rs2 imm hrs1 hrs2 himm)
  generalize layF (u32N imm) (downK 11 12) (downK 31 7 ++ downK 11 5) (W + rs1 * 32768 + rs2 * 1048576) = f at *
  generalize u32N imm = u at *
  go_wp2
  go_loopw [5, 9] (fun vv iv wr => ∃ j : Nat, j ≤ 12 ∧ iv = .int .i64 j ∧ vv = .int .u32 (f j : Nat) ∧ Off x5 x5.heap.size wr) (fun _ iv _ => 12 - (intOf iv).toNat)
  case atStart =>
    refine ⟨0, by omega, rfl, congrArg (Value.int .u32) ?_, ⟨Below.refl _ _, rfl⟩⟩
    rw [HL0.out]
    have hW := HW.out
    have hB := HB.out
    first | omega | (simp only [IntKind.wrap_u32']; omega)
  case round =>
    obtain ⟨j, hj, rfl, rfl, hO⟩ := hrel
    by_cases hlt : j < 12
    · have cf := hO.1.cell (p := ⟨gf, j, none⟩) HGF.out
      rw [HCF.out j hlt] at cf
      have ct := hO.1.cell (p := ⟨gt, j, none⟩) HGT.out
      rw [HCT.out j hlt] at ct
      have hx := HLL.out j
      have HLj := hide (HLS.out j)
      have hbl := HBL.out ((downK 11 12).getD j 0 : Nat)
      generalize (downK 11 12).getD j 0 = pf at *
      generalize (downK 31 7 ++ downK 11 5).getD j 0 = pt at *
      generalize f j = y at *
      have hOd := hO.drew
      go_wp2_with (fail)
      go_region_held3 (fun w' => w'.cell? ⟨gt, j, none⟩ = some (.int .i64 pt) ∧ w'.cell? ⟨gf, j, none⟩ = some (.int .i64 pf) ∧ Off x5 x5.heap.size w') (go_keep)
        (first | (go_at_call 33; refine (HBIT.out _ _).mono ?_; rintro e w' ⟨rfl, rfl⟩) | (go_at_call 32; refine (Calls.two (g := gt) (g' := gf) (j := j) (n := x5.heap.size) (w0 := x5) (c := .int .i64 pt) (c' := .int .i64 pf) HGT.out HGF.out ?_ (HSET.out _ hx _ _ (Nat.lt_of_le_of_lt (Nat.mod_le _ _) (Nat.lt_of_le_of_lt hbl (by decide))) _)).mono ?_; (simp [*]); rintro e w' ⟨rfl, k0, k1, hO2⟩))
      go_wp2
      go_roundw
      case rel => exact ⟨j + 1, by omega, by go_num, by rw [HLj.out]; exact congrArg (fun z : Nat => Value.int .u32 ((setW y pt (1 : Nat) z : Nat) : Int)) (by omega), hO2⟩
      case measure => simp [intOf]; omega
    · obtain rfl : j = 12 := by omega
      go_wp2
      go_ret2
      exact ⟨ret_enc (by rw [HEND.out]), HBX.out.trans (hO.1.mono HBX.out.size)⟩
end Go.Proofs.YtccndehhbccmgaaDoor
