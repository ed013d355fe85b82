/-
  What the document's Check and Encode answer, whatever instruction is handed in.
-/
import Derived.Test.YtoekcfbjdcibpaaGreatDoorJP
import Derived.Test.YtoekcfbjdcibpaaGreatDoorJC
import Derived.Test.YtoekcfbjdcibpaaGreatDoorInAns
namespace Go.Proofs.YtoekcfbjdcibpaaGreatDoor
open Go.RowKit
set_option linter.unusedVariables false

set_option maxHeartbeats 4000000 in
set_option maxRecDepth 100000 in
theorem renc_S (op : Nat) (hop : op < 57) (W : Nat) (hWe : wordN op = W) (hW : W = W % 128 + W / 4096 % 8 * 4096) (rs1 rs2 : Nat) (imm : Int) (hrs1 : rs1 < 32) (hrs2 : rs2 < 32) (himm : -2048 ≤ imm ∧ imm ≤ 2047) (hk : kindN op = 83) (w : World) :
    Calls Tryz.prog 51 #[.agg #[.int .i64 op, .int .i64 0, .int .i64 ((rs1 : Nat) : Int), .int .i64 ((rs2 : Nat) : Int), .int .i64 imm, .int .i64 0]] w fun e w' => e = .returned (.tuple #[.int .u32 (laidK 83 W ⟨op, 0, ((rs1 : Nat) : Int), ((rs2 : Nat) : Int), imm, 0⟩ : Nat), .int .i64 0]) ∧ Below w.heap.size w w' := by
  have HK := hide (rkind_yes op hop)
  rw [hk] at HK
  have HC : Hid (∀ w, Calls Tryz.prog 27 #[.agg #[.int .i64 op, .int .i64 0, .int .i64 ((rs1 : Nat) : Int), .int .i64 ((rs2 : Nat) : Int), .int .i64 imm, .int .i64 0]] w fun e w' => e = .returned (.int .i64 0) ∧ Below w.heap.size w w') := fun w => by
    refine (rcheck_S op hop 0 ((rs1 : Nat) : Int) ((rs2 : Nat) : Int) imm 0 hk w).mono ?_
    rintro e w' ⟨⟨r, rfl, hr⟩, hb⟩
    rcases hr with ⟨rfl, _⟩ | ⟨_, hn⟩
    · exact ⟨rfl, hb⟩
    · exact absurd (by simp [ValidK] <;> omega) hn
  clear hk
  have HP := hide (rplain_any op hop)
  rw [hWe] at HP
  have HW := hide hW
  obtain ⟨i0, hi, hz0, hz1, hz2⟩ := info_parts infoInt
  clear hWe hW
  go_enter Tryz.func51, Tryz.ntmps51
  go_wp2_with (fail)
  obtain ⟨w0, hw0⟩ : ∃ w0, w.alloc (.cells #[.int .i64 op, .int .i64 0, .int .i64 ((rs1 : Nat) : Int), .int .i64 ((rs2 : Nat) : Int), .int .i64 imm, .int .i64 0] 23) = w0 := ⟨_, rfl⟩
  have HN0 : Hid (SixAt w0 w.heap.size ⟨op, 0, ((rs1 : Nat) : Int), ((rs2 : Nat) : Int), imm, 0⟩ ∧ Below w.heap.size w w0 ∧ w0.heap.size = w.heap.size + 1) := by
    rw [← hw0]; exact ⟨SixAt.new w ⟨op, 0, ((rs1 : Nat) : Int), ((rs2 : Nat) : Int), imm, 0⟩ _, (Below.refl _ w).alloc (Nat.le_refl _) _, by simp⟩
  rw [hw0]
  clear hw0
  refine (HC.out _).mono ?_
  rintro e w2 ⟨rfl, hb2⟩
  replace hb2 : Below (w.heap.size + 1) w0 w2 := by rw [← HN0.out.2.2]; exact hb2
  obtain ⟨c0, c1, c2, c3, c4, c5⟩ := HN0.out.1.below hb2 (by omega)
  simp only at c0 c1 c2 c3 c4 c5
  go_wp2_with (first | (go_at_call 29; refine (HK.out _).mono ?_; rintro e w3 ⟨rfl, rfl⟩))
  have hof : Off w0 (w.heap.size + 1) w3 := ⟨hb2, HN0.out.2.2⟩
  have hofd := hof.drew
  go_region_held3 (fun w' => w'.cell? ⟨w.heap.size, 0, none⟩ = some (.int .i64 op) ∧ w'.cell? ⟨w.heap.size, 1, none⟩ = some (.int .i64 0) ∧ w'.cell? ⟨w.heap.size, 2, none⟩ = some (.int .i64 ((rs1 : Nat) : Int)) ∧ w'.cell? ⟨w.heap.size, 3, none⟩ = some (.int .i64 ((rs2 : Nat) : Int)) ∧ w'.cell? ⟨w.heap.size, 4, none⟩ = some (.int .i64 imm) ∧ w'.cell? ⟨w.heap.size, 5, none⟩ = some (.int .i64 0) ∧ Off w0 (w.heap.size + 1) w') (go_keep)
    (first | (go_at_call 79; refine (Calls.six (g := w.heap.size) (n := w.heap.size + 1) (w0 := w0) (c0 := .int .i64 op) (c1 := .int .i64 0) (c2 := .int .i64 ((rs1 : Nat) : Int)) (c3 := .int .i64 ((rs2 : Nat) : Int)) (c4 := .int .i64 imm) (c5 := .int .i64 0) (by omega) ?_ (HP.out _)).mono ?_; (simp [*]); rintro e w' ⟨rfl, e0, e1, e2, e3, e4, e5, hoff⟩))
  go_wp2_with (fail)
  clear c0 c1 c2 c3 c4 c5 e0 e1 e2 e3 e4 e5 hof hofd
  have HOFF := hide hoff
  clear hoff
  have HBW : Hid (Below w.heap.size w w') := HN0.out.2.1.trans (HOFF.out.1.mono (by omega))
  clear hb2
  refine (down_any w'.heap.size (.slice none 0 0) [] 11 0 (by decide) (by decide) (by decide) w' (Own.nil _ _) (Nat.le_refl _)).mono ?_
  rintro e x2 ⟨lf, rfl, hf2, hb2⟩
  go_wp2_with (fail)
  refine (down_any x2.heap.size (.slice none 0 0) [] 31 25 (by decide) (by decide) (by decide) x2 (Own.nil _ _) (Nat.le_refl _)).mono ?_
  rintro e x3 ⟨l1, rfl, ho3, hb3⟩
  go_wp2_with (fail)
  refine (down_any x3.heap.size (.slice none 0 0) [] 11 7 (by decide) (by decide) (by decide) x3 (Own.nil _ _) (Nat.le_refl _)).mono ?_
  rintro e x4 ⟨l2, rfl, ho4, hb4⟩
  have hrow : x4.ownsRow x2.heap.size 3 1 l1 7 (intsOf (downK 31 7)) := ho3.keep hb4 (Nat.le_refl _)
  obtain ⟨g2, cap2, rfl, hn2⟩ := ho4.news (by decide)
  have HGE := hide (own_ge hrow)
  have hsz : x2.heap.size ≤ x4.heap.size := Nat.le_trans hb3.size hb4.size
  have HN2 : Hid (∀ j u, (intsOf (downK 11 5))[j]? = some u → x4.cell? ((⟨g2, 0, none⟩ : Addr).add j) = some u) := hn2
  clear hn2
  go_wp2_with (first | (at_builtin; refine wpList_append_own _ rfl _ _ 47 rfl x2.heap.size 3 i0 (.int .i64 0) 1 8 Tryz.underlying47 hi hz0 hz1 hz2 rfl (by decide) _ _ _ rfl hrow ⟨g2, 0, none⟩ 5 cap2 (intsOf (downK 11 5)) rfl rfl HN2.out (ints_one _) (by unfold maxLen; omega) (by omega) hsz ?_; intro v5 x5 hown5 hgrow5 _))
  have ho5 : Own x2.heap.size x5 v5 (downK 31 7 ++ downK 11 5) := by unfold Own; rw [intsOf_append]; exact hown5
  have hb5 : Below x2.heap.size x2 x5 := hb3.trans ((hb4.mono hb3.size).trans ((Below.refl _ x4).grown hgrow5 hsz HGE.out))
  have hf5 := hf2.keep hb5 (Nat.le_refl _)
  have HBX : Hid (Below w.heap.size w x5) := HBW.out.trans ((hb2.mono HBW.out.size).trans (hb5.mono (Nat.le_trans HBW.out.size hb2.size)))
  obtain ⟨gf, capf, rfl, hcapf, hcf⟩ := hf5.cellsN 12 rfl (by decide)
  obtain ⟨gt, capt, rfl, hcapt, hct⟩ := ho5.cellsN 12 rfl (by decide)
  have HCF : Hid (∀ j, j < 12 → x5.cell? ⟨gf, j, none⟩ = some (.int .i64 ((downK 11 12).getD j 0 : Nat))) := hcf
  have HCT : Hid (∀ j, j < 12 → x5.cell? ⟨gt, j, none⟩ = some (.int .i64 ((downK 31 7 ++ downK 11 5).getD j 0 : Nat))) := hct
  clear hcf hct hf5 ho5 hf2 ho3 ho4 hown5 hgrow5 hrow hsz hb2 hb3 hb4 hb5
  rw [← u32N_cast imm]
  have hul := u32N_lt imm
  have HBIT := hide (bit_any (u32N imm) hul)
  have HSET := hide rset_bit
  have HLT := hide (layF_lt (u32N imm) (downK 11 12) (downK 31 7 ++ downK 11 5) (W + rs1 * 32768 + rs2 * 1048576))
  have HB : Hid (W + rs1 * 32768 + rs2 * 1048576 < 4294967296) := by have := HW.out; show _ < _; omega
  have HBL := hide (fun p => bitN_le (u32N imm) p)
  have HGF := hide (block_lt_of_cell (HCF.out 0 (by decide)))
  have HGT := hide (block_lt_of_cell (HCT.out 0 (by decide)))
  have HL0 : Hid (layF (u32N imm) (downK 11 12) (downK 31 7 ++ downK 11 5) (W + rs1 * 32768 + rs2 * 1048576) 0 = W + rs1 * 32768 + rs2 * 1048576) := rfl
  have HLS : Hid (∀ j, layF (u32N imm) (downK 11 12) (downK 31 7 ++ downK 11 5) (W + rs1 * 32768 + rs2 * 1048576) (j + 1) = setW (layF (u32N imm) (downK 11 12) (downK 31 7 ++ downK 11 5) (W + rs1 * 32768 + rs2 * 1048576) j) ((downK 31 7 ++ downK 11 5).getD j 0 : Nat) (1 : Nat) (bitN (u32N imm) ((downK 11 12).getD j 0 : Nat))) := fun _ => rfl
  have HLL : Hid (∀ j, layF (u32N imm) (downK 11 12) (downK 31 7 ++ downK 11 5) (W + rs1 * 32768 + rs2 * 1048576) j < 4294967296) := HLT.out HB.out
  have HEND := hide (lay_S W HW.out op rs1 rs2 imm hrs1 hrs2 himm)
  generalize layF (u32N imm) (downK 11 12) (downK 31 7 ++ downK 11 5) (W + rs1 * 32768 + rs2 * 1048576) = f at *
  generalize u32N imm = u at *
  go_wp2
  go_loopw [5, 9] (fun vv iv wr => ∃ j : Nat, j ≤ 12 ∧ iv = .int .i64 j ∧ vv = .int .u32 (f j : Nat) ∧ Off x5 x5.heap.size wr) (fun _ iv _ => 12 - (intOf iv).toNat)
  case atStart =>
    refine ⟨0, by omega, rfl, congrArg (Value.int .u32) ?_, ⟨Below.refl _ _, rfl⟩⟩
    rw [HL0.out]
    have hW := HW.out
    have hB := HB.out
    first | omega | (simp only [IntKind.wrap_u32']; omega)
  case round =>
    obtain ⟨j, hj, rfl, rfl, hO⟩ := hrel
    by_cases hlt : j < 12
    · have cf := hO.1.cell (p := ⟨gf, j, none⟩) HGF.out
      rw [HCF.out j hlt] at cf
      have ct := hO.1.cell (p := ⟨gt, j, none⟩) HGT.out
      rw [HCT.out j hlt] at ct
      have hx := HLL.out j
      have HLj := hide (HLS.out j)
      have hbl := HBL.out ((downK 11 12).getD j 0 : Nat)
      generalize (downK 11 12).getD j 0 = pf at *
      generalize (downK 31 7 ++ downK 11 5).getD j 0 = pt at *
      generalize f j = y at *
      have hOd := hO.drew
      go_wp2_with (fail)
      go_region_held3 (fun w' => w'.cell? ⟨gt, j, none⟩ = some (.int .i64 pt) ∧ w'.cell? ⟨gf, j, none⟩ = some (.int .i64 pf) ∧ Off x5 x5.heap.size w') (go_keep)
        (first | (go_at_call 82; refine (HBIT.out _ _).mono ?_; rintro e w' ⟨rfl, rfl⟩) | (go_at_call 81; refine (Calls.two (g := gt) (g' := gf) (j := j) (n := x5.heap.size) (w0 := x5) (c := .int .i64 pt) (c' := .int .i64 pf) HGT.out HGF.out ?_ (HSET.out _ hx _ _ (Nat.lt_of_le_of_lt (Nat.mod_le _ _) (Nat.lt_of_le_of_lt hbl (by decide))) _)).mono ?_; (simp [*]); rintro e w' ⟨rfl, k0, k1, hO2⟩))
      go_wp2
      go_roundw
      case rel => exact ⟨j + 1, by omega, by go_num, by rw [HLj.out]; exact congrArg (fun z : Nat => Value.int .u32 ((setW y pt (1 : Nat) z : Nat) : Int)) (by omega), hO2⟩
      case measure => simp [intOf]; omega
    · obtain rfl : j = 12 := by omega
      go_wp2
      go_ret2
      exact ⟨ret_enc (by rw [HEND.out]), HBX.out.trans (hO.1.mono HBX.out.size)⟩
end Go.Proofs.YtoekcfbjdcibpaaGreatDoor
namespace Go.Proofs.YtoekcfbjdcibpaaGreatDoor
open Go.RowKit
set_option linter.unusedVariables false

set_option maxHeartbeats 4000000 in
set_option maxRecDepth 100000 in
theorem renc_B (op : Nat) (hop : op < 57) (W : Nat) (hWe : wordN op = W) (hW : W = W % 128 + W / 4096 % 8 * 4096) (rs1 rs2 : Nat) (imm : Int) (hrs1 : rs1 < 32) (hrs2 : rs2 < 32) (himm : -4096 ≤ imm ∧ imm ≤ 4095 ∧ imm % 2 = 0) (hk : kindN op = 66) (w : World) :
    Calls Tryz.prog 51 #[.agg #[.int .i64 op, .int .i64 0, .int .i64 ((rs1 : Nat) : Int), .int .i64 ((rs2 : Nat) : Int), .int .i64 imm, .int .i64 0]] w fun e w' => e = .returned (.tuple #[.int .u32 (laidK 66 W ⟨op, 0, ((rs1 : Nat) : Int), ((rs2 : Nat) : Int), imm, 0⟩ : Nat), .int .i64 0]) ∧ Below w.heap.size w w' := by
  have HK := hide (rkind_yes op hop)
  rw [hk] at HK
  have HC : Hid (∀ w, Calls Tryz.prog 27 #[.agg #[.int .i64 op, .int .i64 0, .int .i64 ((rs1 : Nat) : Int), .int .i64 ((rs2 : Nat) : Int), .int .i64 imm, .int .i64 0]] w fun e w' => e = .returned (.int .i64 0) ∧ Below w.heap.size w w') := fun w => by
    refine (rcheck_B op hop 0 ((rs1 : Nat) : Int) ((rs2 : Nat) : Int) imm 0 hk w).mono ?_
    rintro e w' ⟨⟨r, rfl, hr⟩, hb⟩
    rcases hr with ⟨rfl, _⟩ | ⟨_, hn⟩
    · exact ⟨rfl, hb⟩
    · exact absurd (by simp [ValidK] <;> omega) hn
  clear hk
  have HP := hide (rplain_any op hop)
  rw [hWe] at HP
  have HW := hide hW
  obtain ⟨i0, hi, hz0, hz1, hz2⟩ := info_parts infoInt
  clear hWe hW
  go_enter Tryz.func51, Tryz.ntmps51
  go_wp2_with (fail)
  obtain ⟨w0, hw0⟩ : ∃ w0, w.alloc (.cells #[.int .i64 op, .int .i64 0, .int .i64 ((rs1 : Nat) : Int), .int .i64 ((rs2 : Nat) : Int), .int .i64 imm, .int .i64 0] 23) = w0 := ⟨_, rfl⟩
  have HN0 : Hid (SixAt w0 w.heap.size ⟨op, 0, ((rs1 : Nat) : Int), ((rs2 : Nat) : Int), imm, 0⟩ ∧ Below w.heap.size w w0 ∧ w0.heap.size = w.heap.size + 1) := by
    rw [← hw0]; exact ⟨SixAt.new w ⟨op, 0, ((rs1 : Nat) : Int), ((rs2 : Nat) : Int), imm, 0⟩ _, (Below.refl _ w).alloc (Nat.le_refl _) _, by simp⟩
  rw [hw0]
  clear hw0
  refine (HC.out _).mono ?_
  rintro e w2 ⟨rfl, hb2⟩
  replace hb2 : Below (w.heap.size + 1) w0 w2 := by rw [← HN0.out.2.2]; exact hb2
  obtain ⟨c0, c1, c2, c3, c4, c5⟩ := HN0.out.1.below hb2 (by omega)
  simp only at c0 c1 c2 c3 c4 c5
  go_wp2_with (first | (go_at_call 29; refine (HK.out _).mono ?_; rintro e w3 ⟨rfl, rfl⟩))
  have hof : Off w0 (w.heap.size + 1) w3 := ⟨hb2, HN0.out.2.2⟩
  have hofd := hof.drew
  go_region_held3 (fun w' => w'.cell? ⟨w.heap.size, 0, none⟩ = some (.int .i64 op) ∧ w'.cell? ⟨w.heap.size, 1, none⟩ = some (.int .i64 0) ∧ w'.cell? ⟨w.heap.size, 2, none⟩ = some (.int .i64 ((rs1 : Nat) : Int)) ∧ w'.cell? ⟨w.heap.size, 3, none⟩ = some (.int .i64 ((rs2 : Nat) : Int)) ∧ w'.cell? ⟨w.heap.size, 4, none⟩ = some (.int .i64 imm) ∧ w'.cell? ⟨w.heap.size, 5, none⟩ = some (.int .i64 0) ∧ Off w0 (w.heap.size + 1) w') (go_keep)
    (first | (go_at_call 79; refine (Calls.six (g := w.heap.size) (n := w.heap.size + 1) (w0 := w0) (c0 := .int .i64 op) (c1 := .int .i64 0) (c2 := .int .i64 ((rs1 : Nat) : Int)) (c3 := .int .i64 ((rs2 : Nat) : Int)) (c4 := .int .i64 imm) (c5 := .int .i64 0) (by omega) ?_ (HP.out _)).mono ?_; (simp [*]); rintro e w' ⟨rfl, e0, e1, e2, e3, e4, e5, hoff⟩))
  go_wp2_with (fail)
  clear c0 c1 c2 c3 c4 c5 e0 e1 e2 e3 e4 e5 hof hofd
  have HOFF := hide hoff
  clear hoff
  have HBW : Hid (Below w.heap.size w w') := HN0.out.2.1.trans (HOFF.out.1.mono (by omega))
  clear hb2
  refine (down_any w'.heap.size (.slice none 0 0) [] 12 1 (by decide) (by decide) (by decide) w' (Own.nil _ _) (Nat.le_refl _)).mono ?_
  rintro e x2 ⟨lf, rfl, hf2, hb2⟩
  go_wp2_with (fail)
  obtain ⟨xa, hxa⟩ : ∃ xa, x2.alloc (.cells #[.int .i64 31, .int .i64 7] 3) = xa := ⟨_, rfl⟩
  have hoa : Own x2.heap.size xa (.slice (some ⟨x2.heap.size, 0, none⟩) 2 2) [31, 7] := by rw [← hxa]; exact Own.new2 x2 31 7
  have hba : Below x2.heap.size x2 xa := by rw [← hxa]; exact (Below.refl _ x2).alloc (Nat.le_refl _) _
  rw [hxa]
  clear hxa
  refine (down_any xa.heap.size (.slice none 0 0) [] 30 25 (by decide) (by decide) (by decide) xa (Own.nil _ _) (Nat.le_refl _)).mono ?_
  rintro e z0 ⟨l0, rfl, hr0, hs0⟩
  have hrow0 : z0.ownsRow x2.heap.size 3 1 _ 2 (intsOf ([31, 7])) := hoa.keep hs0 (Nat.le_refl _)
  obtain ⟨g0, cap0, rfl, hn0⟩ := hr0.news (by decide)
  have HGE0 := hide (own_ge hrow0)
  have hsz0 : x2.heap.size ≤ z0.heap.size := Nat.le_trans hba.size hs0.size
  have HN0 : Hid (∀ j u, (intsOf (downK 30 6))[j]? = some u → z0.cell? ((⟨g0, 0, none⟩ : Addr).add j) = some u) := hn0
  clear hn0
  go_wp2_with (first | (at_builtin; refine wpList_append_own _ rfl _ _ 47 rfl x2.heap.size 3 i0 (.int .i64 0) 1 8 Tryz.underlying47 hi hz0 hz1 hz2 rfl (by decide) _ _ _ rfl hrow0 ⟨g0, 0, none⟩ 6 cap0 (intsOf (downK 30 6)) rfl rfl HN0.out (ints_one _) (by unfold maxLen; omega) (by omega) hsz0 ?_; intro u0 y0 how0 hgr0 _))
  have hoo0 : Own x2.heap.size y0 u0 (([31, 7]) ++ downK 30 6) := by unfold Own; rw [intsOf_append]; exact how0
  have hbb0 : Below x2.heap.size x2 y0 := hba.trans ((hs0.mono hba.size).trans ((Below.refl _ z0).grown hgr0 hsz0 HGE0.out))
  clear hrow0 how0 hgr0 hs0 hr0
  go_wp2_with (fail)
  refine (down_any y0.heap.size (.slice none 0 0) [] 11 8 (by decide) (by decide) (by decide) y0 (Own.nil _ _) (Nat.le_refl _)).mono ?_
  rintro e z1 ⟨l1, rfl, hr1, hs1⟩
  have hrow1 : z1.ownsRow x2.heap.size 3 1 _ 8 (intsOf (([31, 7]) ++ downK 30 6)) := hoo0.keep hs1 (Nat.le_refl _)
  obtain ⟨g1, cap1, rfl, hn1⟩ := hr1.news (by decide)
  have HGE1 := hide (own_ge hrow1)
  have hsz1 : x2.heap.size ≤ z1.heap.size := Nat.le_trans hbb0.size hs1.size
  have HN1 : Hid (∀ j u, (intsOf (downK 11 4))[j]? = some u → z1.cell? ((⟨g1, 0, none⟩ : Addr).add j) = some u) := hn1
  clear hn1
  go_wp2_with (first | (at_builtin; refine wpList_append_own _ rfl _ _ 47 rfl x2.heap.size 3 i0 (.int .i64 0) 1 8 Tryz.underlying47 hi hz0 hz1 hz2 rfl (by decide) _ _ _ rfl hrow1 ⟨g1, 0, none⟩ 4 cap1 (intsOf (downK 11 4)) rfl rfl HN1.out (ints_one _) (by unfold maxLen; omega) (by omega) hsz1 ?_; intro v5 x5 how1 hgr1 _))
  have hoo1 : Own x2.heap.size x5 v5 ((([31, 7]) ++ downK 30 6) ++ downK 11 4) := by unfold Own; rw [intsOf_append]; exact how1
  have hbb1 : Below x2.heap.size x2 x5 := hbb0.trans ((hs1.mono hbb0.size).trans ((Below.refl _ z1).grown hgr1 hsz1 HGE1.out))
  clear hrow1 how1 hgr1 hs1 hr1
  have ho5 := hoo1
  have hb5 := hbb1
  have hf5 := hf2.keep hb5 (Nat.le_refl _)
  have HBX : Hid (Below w.heap.size w x5) := HBW.out.trans ((hb2.mono HBW.out.size).trans (hb5.mono (Nat.le_trans HBW.out.size hb2.size)))
  obtain ⟨gf, capf, rfl, hcapf, hcf⟩ := hf5.cellsN 12 rfl (by decide)
  obtain ⟨gt, capt, rfl, hcapt, hct⟩ := ho5.cellsN 12 rfl (by decide)
  have HCF : Hid (∀ j, j < 12 → x5.cell? ⟨gf, j, none⟩ = some (.int .i64 ((downK 12 12).getD j 0 : Nat))) := hcf
  have HCT : Hid (∀ j, j < 12 → x5.cell? ⟨gt, j, none⟩ = some (.int .i64 ((([31, 7] ++ downK 30 6) ++ downK 11 4).getD j 0 : Nat))) := hct
  clear hcf hct hf5 ho5 hf2 hoa hba hoo0 hbb0 hoo1 hbb1 hb2 hb5
  rw [← u32N_cast imm]
  have hul := u32N_lt imm
  have HBIT := hide (bit_any (u32N imm) hul)
  have HSET := hide rset_bit
  have HLT := hide (layF_lt (u32N imm) (downK 12 12) (([31, 7] ++ downK 30 6) ++ downK 11 4) (W + rs1 * 32768 + rs2 * 1048576))
  have HB : Hid (W + rs1 * 32768 + rs2 * 1048576 < 4294967296) := by have := HW.out; show _ < _; omega
  have HBL := hide (fun p => bitN_le (u32N imm) p)
  have HGF := hide (block_lt_of_cell (HCF.out 0 (by decide)))
  have HGT := hide (block_lt_of_cell (HCT.out 0 (by decide)))
  have HL0 : Hid (layF (u32N imm) (downK 12 12) (([31, 7] ++ downK 30 6) ++ downK 11 4) (W + rs1 * 32768 + rs2 * 1048576) 0 = W + rs1 * 32768 + rs2 * 1048576) := rfl
  have HLS : Hid (∀ j, layF (u32N imm) (downK 12 12) (([31, 7] ++ downK 30 6) ++ downK 11 4) (W + rs1 * 32768 + rs2 * 1048576) (j + 1) = setW (layF (u32N imm) (downK 12 12) (([31, 7] ++ downK 30 6) ++ downK 11 4) (W + rs1 * 32768 + rs2 * 1048576) j) ((([31, 7] ++ downK 30 6) ++ downK 11 4).getD j 0 : Nat) (1 : Nat) (bitN (u32N imm) ((downK 12 12).getD j 0 : Nat))) := fun _ => rfl
  have HLL : Hid (∀ j, layF (u32N imm) (downK 12 12) (([31, 7] ++ downK 30 6) ++ downK 11 4) (W + rs1 * 32768 + rs2 * 1048576) j < 4294967296) := HLT.out HB.out
  have HEND := hide (lay_B W HW.out op rs1 rs2 imm hrs1 hrs2 himm)
  generalize layF (u32N imm) (downK 12 12) (([31, 7] ++ downK 30 6) ++ downK 11 4) (W + rs1 * 32768 + rs2 * 1048576) = f at *
  generalize u32N imm = u at *
  go_wp2
  go_loopw [5, 9] (fun vv iv wr => ∃ j : Nat, j ≤ 12 ∧ iv = .int .i64 j ∧ vv = .int .u32 (f j : Nat) ∧ Off x5 x5.heap.size wr) (fun _ iv _ => 12 - (intOf iv).toNat)
  case atStart =>
    refine ⟨0, by omega, rfl, congrArg (Value.int .u32) ?_, ⟨Below.refl _ _, rfl⟩⟩
    rw [HL0.out]
    have hW := HW.out
    have hB := HB.out
    first | omega | (simp only [IntKind.wrap_u32']; omega)
  case round =>
    obtain ⟨j, hj, rfl, rfl, hO⟩ := hrel
    by_cases hlt : j < 12
    · have cf := hO.1.cell (p := ⟨gf, j, none⟩) HGF.out
      rw [HCF.out j hlt] at cf
      have ct := hO.1.cell (p := ⟨gt, j, none⟩) HGT.out
      rw [HCT.out j hlt] at ct
      have hx := HLL.out j
      have HLj := hide (HLS.out j)
      have hbl := HBL.out ((downK 12 12).getD j 0 : Nat)
      generalize (downK 12 12).getD j 0 = pf at *
      generalize (([31, 7] ++ downK 30 6) ++ downK 11 4).getD j 0 = pt at *
      generalize f j = y at *
      have hOd := hO.drew
      go_wp2_with (fail)
      go_region_held3 (fun w' => w'.cell? ⟨gt, j, none⟩ = some (.int .i64 pt) ∧ w'.cell? ⟨gf, j, none⟩ = some (.int .i64 pf) ∧ Off x5 x5.heap.size w') (go_keep)
        (first | (go_at_call 82; refine (HBIT.out _ _).mono ?_; rintro e w' ⟨rfl, rfl⟩) | (go_at_call 81; refine (Calls.two (g := gt) (g' := gf) (j := j) (n := x5.heap.size) (w0 := x5) (c := .int .i64 pt) (c' := .int .i64 pf) HGT.out HGF.out ?_ (HSET.out _ hx _ _ (Nat.lt_of_le_of_lt (Nat.mod_le _ _) (Nat.lt_of_le_of_lt hbl (by decide))) _)).mono ?_; (simp [*]); rintro e w' ⟨rfl, k0, k1, hO2⟩))
      go_wp2
      go_roundw
      case rel => exact ⟨j + 1, by omega, by go_num, by rw [HLj.out]; exact congrArg (fun z : Nat => Value.int .u32 ((setW y pt (1 : Nat) z : Nat) : Int)) (by omega), hO2⟩
      case measure => simp [intOf]; omega
    · obtain rfl : j = 12 := by omega
      go_wp2
      go_ret2
      exact ⟨ret_enc (by rw [HEND.out]), HBX.out.trans (hO.1.mono HBX.out.size)⟩
end Go.Proofs.YtoekcfbjdcibpaaGreatDoor
namespace Go.Proofs.YtoekcfbjdcibpaaGreatDoor
open Go.RowKit
set_option linter.unusedVariables false

set_option maxHeartbeats 4000000 in
set_option maxRecDepth 100000 in
theorem renc_J (op : Nat) (hop : op < 57) (W : Nat) (hWe : wordN op = W) (hW : W < 128) (rd : Nat) (imm : Int) (hrd : rd < 32) (himm : -1048576 ≤ imm ∧ imm ≤ 1048575 ∧ imm % 2 = 0) (hk : kindN op = 74) (w : World) :
    Calls Tryz.prog 51 #[.agg #[.int .i64 op, .int .i64 ((rd : Nat) : Int), .int .i64 0, .int .i64 0, .int .i64 imm, .int .i64 0]] w fun e w' => e = .returned (.tuple #[.int .u32 (laidK 74 W ⟨op, ((rd : Nat) : Int), 0, 0, imm, 0⟩ : Nat), .int .i64 0]) ∧ Below w.heap.size w w' := by
  have HK := hide (rkind_yes op hop)
  rw [hk] at HK
  have HC : Hid (∀ w, Calls Tryz.prog 27 #[.agg #[.int .i64 op, .int .i64 ((rd : Nat) : Int), .int .i64 0, .int .i64 0, .int .i64 imm, .int .i64 0]] w fun e w' => e = .returned (.int .i64 0) ∧ Below w.heap.size w w') := fun w => by
    refine (rcheck_J op hop ((rd : Nat) : Int) 0 0 imm 0 hk w).mono ?_
    rintro e w' ⟨⟨r, rfl, hr⟩, hb⟩
    rcases hr with ⟨rfl, _⟩ | ⟨_, hn⟩
    · exact ⟨rfl, hb⟩
    · exact absurd (by simp [ValidK] <;> omega) hn
  clear hk
  have HP := hide (rplain_any op hop)
  rw [hWe] at HP
  have HW := hide hW
  obtain ⟨i0, hi, hz0, hz1, hz2⟩ := info_parts infoInt
  clear hWe hW
  go_enter Tryz.func51, Tryz.ntmps51
  go_wp2_with (fail)
  obtain ⟨w0, hw0⟩ : ∃ w0, w.alloc (.cells #[.int .i64 op, .int .i64 ((rd : Nat) : Int), .int .i64 0, .int .i64 0, .int .i64 imm, .int .i64 0] 23) = w0 := ⟨_, rfl⟩
  have HN0 : Hid (SixAt w0 w.heap.size ⟨op, ((rd : Nat) : Int), 0, 0, imm, 0⟩ ∧ Below w.heap.size w w0 ∧ w0.heap.size = w.heap.size + 1) := by
    rw [← hw0]; exact ⟨SixAt.new w ⟨op, ((rd : Nat) : Int), 0, 0, imm, 0⟩ _, (Below.refl _ w).alloc (Nat.le_refl _) _, by simp⟩
  rw [hw0]
  clear hw0
  refine (HC.out _).mono ?_
  rintro e w2 ⟨rfl, hb2⟩
  replace hb2 : Below (w.heap.size + 1) w0 w2 := by rw [← HN0.out.2.2]; exact hb2
  obtain ⟨c0, c1, c2, c3, c4, c5⟩ := HN0.out.1.below hb2 (by omega)
  simp only at c0 c1 c2 c3 c4 c5
  go_wp2_with (first | (go_at_call 29; refine (HK.out _).mono ?_; rintro e w3 ⟨rfl, rfl⟩))
  have hof : Off w0 (w.heap.size + 1) w3 := ⟨hb2, HN0.out.2.2⟩
  have hofd := hof.drew
  go_region_held3 (fun w' => w'.cell? ⟨w.heap.size, 0, none⟩ = some (.int .i64 op) ∧ w'.cell? ⟨w.heap.size, 1, none⟩ = some (.int .i64 ((rd : Nat) : Int)) ∧ w'.cell? ⟨w.heap.size, 2, none⟩ = some (.int .i64 0) ∧ w'.cell? ⟨w.heap.size, 3, none⟩ = some (.int .i64 0) ∧ w'.cell? ⟨w.heap.size, 4, none⟩ = some (.int .i64 imm) ∧ w'.cell? ⟨w.heap.size, 5, none⟩ = some (.int .i64 0) ∧ Off w0 (w.heap.size + 1) w') (go_keep)
    (first | (go_at_call 79; refine (Calls.six (g := w.heap.size) (n := w.heap.size + 1) (w0 := w0) (c0 := .int .i64 op) (c1 := .int .i64 ((rd : Nat) : Int)) (c2 := .int .i64 0) (c3 := .int .i64 0) (c4 := .int .i64 imm) (c5 := .int .i64 0) (by omega) ?_ (HP.out _)).mono ?_; (simp [*]); rintro e w' ⟨rfl, e0, e1, e2, e3, e4, e5, hoff⟩))
  go_wp2_with (fail)
  clear c0 c1 c2 c3 c4 c5 e0 e1 e2 e3 e4 e5 hof hofd
  have HOFF := hide hoff
  clear hoff
  have HBW : Hid (Below w.heap.size w w') := HN0.out.2.1.trans (HOFF.out.1.mono (by omega))
  clear hb2
  refine (down_any w'.heap.size (.slice none 0 0) [] 20 1 (by decide) (by decide) (by decide) w' (Own.nil _ _) (Nat.le_refl _)).mono ?_
  rintro e x2 ⟨lf, rfl, hf2, hb2⟩
  go_wp2_with (fail)
  obtain ⟨xa, hxa⟩ : ∃ xa, x2.alloc (.cells #[.int .i64 31] 3) = xa := ⟨_, rfl⟩
  have hoa : Own x2.heap.size xa (.slice (some ⟨x2.heap.size, 0, none⟩) 1 1) [31] := by rw [← hxa]; exact Own.new1 x2 31
  have hba : Below x2.heap.size x2 xa := by rw [← hxa]; exact (Below.refl _ x2).alloc (Nat.le_refl _) _
  rw [hxa]
  clear hxa
  refine (down_any xa.heap.size (.slice none 0 0) [] 19 12 (by decide) (by decide) (by decide) xa (Own.nil _ _) (Nat.le_refl _)).mono ?_
  rintro e z0 ⟨l0, rfl, hr0, hs0⟩
  have hrow0 : z0.ownsRow x2.heap.size 3 1 _ 1 (intsOf ([31])) := hoa.keep hs0 (Nat.le_refl _)
  obtain ⟨g0, cap0, rfl, hn0⟩ := hr0.news (by decide)
  have HGE0 := hide (own_ge hrow0)
  have hsz0 : x2.heap.size ≤ z0.heap.size := Nat.le_trans hba.size hs0.size
  have HN0 : Hid (∀ j u, (intsOf (downK 19 8))[j]? = some u → z0.cell? ((⟨g0, 0, none⟩ : Addr).add j) = some u) := hn0
  clear hn0
  go_wp2_with (first | (at_builtin; refine wpList_append_own _ rfl _ _ 47 rfl x2.heap.size 3 i0 (.int .i64 0) 1 8 Tryz.underlying47 hi hz0 hz1 hz2 rfl (by decide) _ _ _ rfl hrow0 ⟨g0, 0, none⟩ 8 cap0 (intsOf (downK 19 8)) rfl rfl HN0.out (ints_one _) (by unfold maxLen; omega) (by omega) hsz0 ?_; intro u0 y0 how0 hgr0 _) | (at_builtin; have hrow1 : y0.ownsRow x2.heap.size 3 1 u0 9 (intsOf (([31]) ++ downK 19 8)) := (by rw [intsOf_append]; exact how0); have HGE1 := hide (own_ge hrow1); have hbb0 : Below x2.heap.size x2 y0 := hba.trans ((hs0.mono hba.size).trans ((Below.refl _ z0).grown hgr0 hsz0 HGE0.out)); have hsz1 := hbb0.size; refine wpList_append_own _ rfl _ _ 47 rfl x2.heap.size 3 i0 (.int .i64 0) 1 8 Tryz.underlying47 hi hz0 hz1 hz2 rfl (by decide) _ _ _ rfl (hrow1.alloc _) ⟨_, 0, none⟩ 1 1 [.int .i64 20] rfl rfl (cell_one_new _ _ _) (by simp [Value.oneCell']) (by unfold maxLen; omega) (by omega) (by simp; omega) ?_; intro u1 y1 how1 hgr1 _))
  have hoo1 : Own x2.heap.size y1 u1 ((([31]) ++ downK 19 8) ++ [20]) := how1
  have hbb1 : Below x2.heap.size x2 y1 := (hbb0.alloc hsz1 _).grown hgr1 (by simp; omega) HGE1.out
  clear hrow0 how0 hgr0 hs0 hr0 hrow1 how1 hgr1
  go_wp2_with (fail)
  refine (down_any y1.heap.size (.slice none 0 0) [] 30 25 (by decide) (by decide) (by decide) y1 (Own.nil _ _) (Nat.le_refl _)).mono ?_
  rintro e z2 ⟨l2, rfl, hr2, hs2⟩
  have hrow2 : z2.ownsRow x2.heap.size 3 1 _ 10 (intsOf ((([31]) ++ downK 19 8) ++ [20])) := hoo1.keep hs2 (Nat.le_refl _)
  obtain ⟨g2, cap2, rfl, hn2⟩ := hr2.news (by decide)
  have HGE2 := hide (own_ge hrow2)
  have hsz2 : x2.heap.size ≤ z2.heap.size := Nat.le_trans hbb1.size hs2.size
  have HN2 : Hid (∀ j u, (intsOf (downK 30 6))[j]? = some u → z2.cell? ((⟨g2, 0, none⟩ : Addr).add j) = some u) := hn2
  clear hn2
  go_wp2_with (first | (at_builtin; refine wpList_append_own _ rfl _ _ 47 rfl x2.heap.size 3 i0 (.int .i64 0) 1 8 Tryz.underlying47 hi hz0 hz1 hz2 rfl (by decide) _ _ _ rfl hrow2 ⟨g2, 0, none⟩ 6 cap2 (intsOf (downK 30 6)) rfl rfl HN2.out (ints_one _) (by unfold maxLen; omega) (by omega) hsz2 ?_; intro u2 y2 how2 hgr2 _))
  have hoo2 : Own x2.heap.size y2 u2 (((([31]) ++ downK 19 8) ++ [20]) ++ downK 30 6) := by unfold Own; rw [intsOf_append]; exact how2
  have hbb2 : Below x2.heap.size x2 y2 := hbb1.trans ((hs2.mono hbb1.size).trans ((Below.refl _ z2).grown hgr2 hsz2 HGE2.out))
  clear hrow2 how2 hgr2 hs2 hr2
  go_wp2_with (fail)
  refine (down_any y2.heap.size (.slice none 0 0) [] 24 21 (by decide) (by decide) (by decide) y2 (Own.nil _ _) (Nat.le_refl _)).mono ?_
  rintro e z3 ⟨l3, rfl, hr3, hs3⟩
  have hrow3 : z3.ownsRow x2.heap.size 3 1 _ 16 (intsOf (((([31]) ++ downK 19 8) ++ [20]) ++ downK 30 6)) := hoo2.keep hs3 (Nat.le_refl _)
  obtain ⟨g3, cap3, rfl, hn3⟩ := hr3.news (by decide)
  have HGE3 := hide (own_ge hrow3)
  have hsz3 : x2.heap.size ≤ z3.heap.size := Nat.le_trans hbb2.size hs3.size
  have HN3 : Hid (∀ j u, (intsOf (downK 24 4))[j]? = some u → z3.cell? ((⟨g3, 0, none⟩ : Addr).add j) = some u) := hn3
  clear hn3
  go_wp2_with (first | (at_builtin; refine wpList_append_own _ rfl _ _ 47 rfl x2.heap.size 3 i0 (.int .i64 0) 1 8 Tryz.underlying47 hi hz0 hz1 hz2 rfl (by decide) _ _ _ rfl hrow3 ⟨g3, 0, none⟩ 4 cap3 (intsOf (downK 24 4)) rfl rfl HN3.out (ints_one _) (by unfold maxLen; omega) (by omega) hsz3 ?_; intro v5 x5 how3 hgr3 _))
  have hoo3 : Own x2.heap.size x5 v5 ((((([31]) ++ downK 19 8) ++ [20]) ++ downK 30 6) ++ downK 24 4) := by unfold Own; rw [intsOf_append]; exact how3
  have hbb3 : Below x2.heap.size x2 x5 := hbb2.trans ((hs3.mono hbb2.size).trans ((Below.refl _ z3).grown hgr3 hsz3 HGE3.out))
  clear hrow3 how3 hgr3 hs3 hr3
  have ho5 := hoo3
  have hb5 := hbb3
  have hf5 := hf2.keep hb5 (Nat.le_refl _)
  have HBX : Hid (Below w.heap.size w x5) := HBW.out.trans ((hb2.mono HBW.out.size).trans (hb5.mono (Nat.le_trans HBW.out.size hb2.size)))
  obtain ⟨gf, capf, rfl, hcapf, hcf⟩ := hf5.cellsN 20 rfl (by decide)
  obtain ⟨gt, capt, rfl, hcapt, hct⟩ := ho5.cellsN 20 rfl (by decide)
  have HCF : Hid (∀ j, j < 20 → x5.cell? ⟨gf, j, none⟩ = some (.int .i64 ((downK 20 20).getD j 0 : Nat))) := hcf
  have HCT : Hid (∀ j, j < 20 → x5.cell? ⟨gt, j, none⟩ = some (.int .i64 ((((([31] ++ downK 19 8) ++ [20]) ++ downK 30 6) ++ downK 24 4).getD j 0 : Nat))) := hct
  clear hcf hct hf5 ho5 hf2 hoa hba hbb0 hoo1 hbb1 hoo2 hbb2 hoo3 hbb3 hb2 hb5
  rw [← u32N_cast imm]
  have hul := u32N_lt imm
  have HBIT := hide (bit_any (u32N imm) hul)
  have HSET := hide rset_bit
  have HLT := hide (layF_lt (u32N imm) (downK 20 20) (((([31] ++ downK 19 8) ++ [20]) ++ downK 30 6) ++ downK 24 4) (W + rd * 128))
  have HB : Hid (W + rd * 128 < 4294967296) := by have := HW.out; show _ < _; omega
  have HBL := hide (fun p => bitN_le (u32N imm) p)
  have HGF := hide (block_lt_of_cell (HCF.out 0 (by decide)))
  have HGT := hide (block_lt_of_cell (HCT.out 0 (by decide)))
  have HL0 : Hid (layF (u32N imm) (downK 20 20) (((([31] ++ downK 19 8) ++ [20]) ++ downK 30 6) ++ downK 24 4) (W + rd * 128) 0 = W + rd * 128) := rfl
  have HLS : Hid (∀ j, layF (u32N imm) (downK 20 20) (((([31] ++ downK 19 8) ++ [20]) ++ downK 30 6) ++ downK 24 4) (W + rd * 128) (j + 1) = setW (layF (u32N imm) (downK 20 20) (((([31] ++ downK 19 8) ++ [20]) ++ downK 30 6) ++ downK 24 4) (W + rd * 128) j) ((((([31] ++ downK 19 8) ++ [20]) ++ downK 30 6) ++ downK 24 4).getD j 0 : Nat) (1 : Nat) (bitN (u32N imm) ((downK 20 20).getD j 0 : Nat))) := fun _ => rfl
  have HLL : Hid (∀ j, layF (u32N imm) (downK 20 20) (((([31] ++ downK 19 8) ++ [20]) ++ downK 30 6) ++ downK 24 4) (W + rd * 128) j < 4294967296) := HLT.out HB.out
  have HEND := hide (lay_J W HW.out op rd imm hrd himm)
  generalize layF (u32N imm) (downK 20 20) (((([31] ++ downK 19 8) ++ [20]) ++ downK 30 6) ++ downK 24 4) (W + rd * 128) = f at *
  generalize u32N imm = u at *
  go_wp2
  go_loopw [5, 9] (fun vv iv wr => ∃ j : Nat, j ≤ 20 ∧ iv = .int .i64 j ∧ vv = .int .u32 (f j : Nat) ∧ Off x5 x5.heap.size wr) (fun _ iv _ => 20 - (intOf iv).toNat)
  case atStart =>
    refine ⟨0, by omega, rfl, congrArg (Value.int .u32) ?_, ⟨Below.refl _ _, rfl⟩⟩
    rw [HL0.out]
    have hW := HW.out
    have hB := HB.out
    first | omega | (simp only [IntKind.wrap_u32']; omega)
  case round =>
    obtain ⟨j, hj, rfl, rfl, hO⟩ := hrel
    by_cases hlt : j < 20
    · have cf := hO.1.cell (p := ⟨gf, j, none⟩) HGF.out
      rw [HCF.out j hlt] at cf
      have ct := hO.1.cell (p := ⟨gt, j, none⟩) HGT.out
      rw [HCT.out j hlt] at ct
      have hx := HLL.out j
      have HLj := hide (HLS.out j)
      have hbl := HBL.out ((downK 20 20).getD j 0 : Nat)
      generalize (downK 20 20).getD j 0 = pf at *
      generalize (((([31] ++ downK 19 8) ++ [20]) ++ downK 30 6) ++ downK 24 4).getD j 0 = pt at *
      generalize f j = y at *
      have hOd := hO.drew
      go_wp2_with (fail)
      go_region_held3 (fun w' => w'.cell? ⟨gt, j, none⟩ = some (.int .i64 pt) ∧ w'.cell? ⟨gf, j, none⟩ = some (.int .i64 pf) ∧ Off x5 x5.heap.size w') (go_keep)
        (first | (go_at_call 82; refine (HBIT.out _ _).mono ?_; rintro e w' ⟨rfl, rfl⟩) | (go_at_call 81; refine (Calls.two (g := gt) (g' := gf) (j := j) (n := x5.heap.size) (w0 := x5) (c := .int .i64 pt) (c' := .int .i64 pf) HGT.out HGF.out ?_ (HSET.out _ hx _ _ (Nat.lt_of_le_of_lt (Nat.mod_le _ _) (Nat.lt_of_le_of_lt hbl (by decide))) _)).mono ?_; (simp [*]); rintro e w' ⟨rfl, k0, k1, hO2⟩))
      go_wp2
      go_roundw
      case rel => exact ⟨j + 1, by omega, by go_num, by rw [HLj.out]; exact congrArg (fun z : Nat => Value.int .u32 ((setW y pt (1 : Nat) z : Nat) : Int)) (by omega), hO2⟩
      case measure => simp [intOf]; omega
    · obtain rfl : j = 20 := by omega
      go_wp2
      go_ret2
      exact ⟨ret_enc (by rw [HEND.out]), HBX.out.trans (hO.1.mono HBX.out.size)⟩
end Go.Proofs.YtoekcfbjdcibpaaGreatDoor
namespace Go.Proofs.YtoekcfbjdcibpaaGreatDoor
open Go.RowKit
set_option linter.unusedVariables false

set_option maxHeartbeats 2000000 in
set_option maxRecDepth 100000 in
theorem renc_no (i : I6) (hn : encN i = 1) (w : World) :
    Calls Tryz.prog 51 #[.agg i.cells] w fun e w' => e = .returned (.tuple #[.int .u32 0, .int .i64 1]) ∧ Below w.heap.size w w' := by
  have HC := hide (rcheck_all i)
  rw [hn] at HC
  clear hn
  unfold I6.cells at *
  go_enter Tryz.func51, Tryz.ntmps51
  go_wp2_with (first | (go_at_call 27; refine (HC.out _).mono ?_; rintro e w2 ⟨rfl, hb2⟩))
  go_ret2
  exact ⟨rfl, ((Below.refl _ w).alloc (Nat.le_refl _) _).trans (hb2.mono (by simp))⟩

theorem renc_op (op : Nat) (hop : op < 57) (i : I6) (hi : i.op = op) (hv : ValidK (kindN op) i) (w : World) :
    Calls Tryz.prog 51 #[.agg i.cells] w fun e w' => e = .returned (.tuple #[.int .u32 (laidK (kindN op) (wordN op) i : Nat), .int .i64 0]) ∧ Below w.heap.size w w' := by
  obtain ⟨o, rd, rs1, rs2, imm, csr⟩ := i
  simp only at hi
  subst hi
  have hk := kindN_is op hop
  have hr := word_rest op hop
  have hl := wordN_lt op
  have key : ∀ k, kindN op = k → IsKind k → restK k (wordN op) = wordN op → ValidK k (I6.mk op rd rs1 rs2 imm csr) → Calls Tryz.prog 51 #[.agg (I6.mk op rd rs1 rs2 imm csr).cells] w fun e w' => e = .returned (.tuple #[.int .u32 (laidK k (wordN op) (I6.mk op rd rs1 rs2 imm csr) : Nat), .int .i64 0]) ∧ Below w.heap.size w w' := by
    intro k e hk hW hv
    obtain ⟨h1, h2, h3, h4, h5⟩ := hv
    rcases hk with rfl | rfl | rfl | rfl | rfl | rfl | rfl | rfl | rfl | rfl | rfl
    · replace h1 : 0 ≤ rd ∧ rd ≤ 31 := h1
      obtain ⟨nrd, rfl, brd⟩ := nat_of h1
      replace h2 : rs1 = 0 := h2
      subst h2
      replace h3 : rs2 = 0 := h3
      subst h3
      replace h4 : csr = 0 := h4
      subst h4
      exact renc_U op hop (wordN op) rfl (rest_lt (by decide) hW) nrd imm brd h5 e w
    · replace h1 : 0 ≤ rd ∧ rd ≤ 31 := h1
      obtain ⟨nrd, rfl, brd⟩ := nat_of h1
      replace h2 : rs1 = 0 := h2
      subst h2
      replace h3 : rs2 = 0 := h3
      subst h3
      replace h4 : csr = 0 := h4
      subst h4
      exact renc_J op hop (wordN op) rfl (rest_lt (by decide) hW) nrd imm brd h5 e w
    · replace h1 : 0 ≤ rd ∧ rd ≤ 31 := h1
      obtain ⟨nrd, rfl, brd⟩ := nat_of h1
      replace h2 : 0 ≤ rs1 ∧ rs1 ≤ 31 := h2
      obtain ⟨nrs1, rfl, brs1⟩ := nat_of h2
      replace h3 : rs2 = 0 := h3
      subst h3
      replace h4 : csr = 0 := h4
      subst h4
      exact renc_I op hop (wordN op) rfl hW.symm nrd nrs1 imm brd brs1 h5 e w
    · replace h1 : 0 ≤ rd ∧ rd ≤ 31 := h1
      obtain ⟨nrd, rfl, brd⟩ := nat_of h1
      replace h2 : 0 ≤ rs1 ∧ rs1 ≤ 31 := h2
      obtain ⟨nrs1, rfl, brs1⟩ := nat_of h2
      replace h3 : rs2 = 0 := h3
      subst h3
      replace h4 : csr = 0 := h4
      subst h4
      exact renc_L op hop (wordN op) rfl hW.symm nrd nrs1 imm brd brs1 h5 e w
    · replace h1 : 0 ≤ rd ∧ rd ≤ 31 := h1
      obtain ⟨nrd, rfl, brd⟩ := nat_of h1
      replace h2 : 0 ≤ rs1 ∧ rs1 ≤ 31 := h2
      obtain ⟨nrs1, rfl, brs1⟩ := nat_of h2
      replace h3 : rs2 = 0 := h3
      subst h3
      replace h4 : csr = 0 := h4
      subst h4
      exact renc_F op hop (wordN op) rfl hW.symm nrd nrs1 imm brd brs1 h5 e w
    · replace h1 : 0 ≤ rd ∧ rd ≤ 31 := h1
      obtain ⟨nrd, rfl, brd⟩ := nat_of h1
      replace h2 : 0 ≤ rs1 ∧ rs1 ≤ 31 := h2
      obtain ⟨nrs1, rfl, brs1⟩ := nat_of h2
      replace h3 : rs2 = 0 := h3
      subst h3
      replace h4 : 0 ≤ csr ∧ csr ≤ 4095 := h4
      obtain ⟨ncsr, rfl, bcsr⟩ := nat_of12 h4
      replace h5 : imm = 0 := h5
      subst h5
      exact renc_C op hop (wordN op) rfl hW.symm nrd nrs1 ncsr brd brs1 bcsr e w
    · replace h1 : rd = 0 := h1
      subst h1
      replace h2 : 0 ≤ rs1 ∧ rs1 ≤ 31 := h2
      obtain ⟨nrs1, rfl, brs1⟩ := nat_of h2
      replace h3 : 0 ≤ rs2 ∧ rs2 ≤ 31 := h3
      obtain ⟨nrs2, rfl, brs2⟩ := nat_of h3
      replace h4 : csr = 0 := h4
      subst h4
      exact renc_B op hop (wordN op) rfl hW.symm nrs1 nrs2 imm brs1 brs2 h5 e w
    · replace h1 : rd = 0 := h1
      subst h1
      replace h2 : 0 ≤ rs1 ∧ rs1 ≤ 31 := h2
      obtain ⟨nrs1, rfl, brs1⟩ := nat_of h2
      replace h3 : 0 ≤ rs2 ∧ rs2 ≤ 31 := h3
      obtain ⟨nrs2, rfl, brs2⟩ := nat_of h3
      replace h4 : csr = 0 := h4
      subst h4
      exact renc_S op hop (wordN op) rfl hW.symm nrs1 nrs2 imm brs1 brs2 h5 e w
    · replace h1 : 0 ≤ rd ∧ rd ≤ 31 := h1
      obtain ⟨nrd, rfl, brd⟩ := nat_of h1
      replace h2 : 0 ≤ rs1 ∧ rs1 ≤ 31 := h2
      obtain ⟨nrs1, rfl, brs1⟩ := nat_of h2
      replace h3 : rs2 = 0 := h3
      subst h3
      replace h4 : csr = 0 := h4
      subst h4
      exact renc_H op hop (wordN op) rfl ⟨hW.symm, hl⟩ nrd nrs1 imm brd brs1 h5 e w
    · replace h1 : 0 ≤ rd ∧ rd ≤ 31 := h1
      obtain ⟨nrd, rfl, brd⟩ := nat_of h1
      replace h2 : 0 ≤ rs1 ∧ rs1 ≤ 31 := h2
      obtain ⟨nrs1, rfl, brs1⟩ := nat_of h2
      replace h3 : 0 ≤ rs2 ∧ rs2 ≤ 31 := h3
      obtain ⟨nrs2, rfl, brs2⟩ := nat_of h3
      replace h4 : csr = 0 := h4
      subst h4
      replace h5 : imm = 0 := h5
      subst h5
      exact renc_R op hop (wordN op) rfl ⟨hW.symm, hl⟩ nrd nrs1 nrs2 brd brs1 brs2 e w
    · replace h1 : rd = 0 := h1
      subst h1
      replace h2 : rs1 = 0 := h2
      subst h2
      replace h3 : rs2 = 0 := h3
      subst h3
      replace h4 : csr = 0 := h4
      subst h4
      replace h5 : imm = 0 := h5
      subst h5
      exact renc_N op hop (wordN op) rfl hl   e w
  exact key _ rfl hk hr hv

theorem rencode_all (i : I6) (w : World) :
    Calls Tryz.prog 51 #[.agg i.cells] w fun e w' => e = .returned (.tuple #[.int .u32 (encW i : Nat), .int .i64 (encN i)]) ∧ Below w.heap.size w w' := by
  by_cases h : 0 ≤ i.op ∧ i.op < 57
  · obtain ⟨h1, h2⟩ := op_nat h
    by_cases hv : ValidK (kindN i.op.toNat) i
    · obtain ⟨e1, e2⟩ := enc_valid _ h1 i h2 hv
      rw [e1, e2]
      exact renc_op _ h1 i h2 hv w
    · obtain ⟨e1, e2⟩ := enc_not _ h1 i h2 hv
      rw [e2, e1]
      exact renc_no i e1 w
  · obtain ⟨e1, e2⟩ := enc_bad i h
    rw [e2, e1]
    exact renc_no i e1 w
end Go.Proofs.YtoekcfbjdcibpaaGreatDoor
