/-
  InstBack's walk.
-/
import Derived.Test.YtccndehhbccmgaaDoorInApartW
namespace Go.Proofs.YtccndehhbccmgaaDoor
open Go.RowKit
set_option linter.unusedVariables false

theorem one_new (w : World) (i : I6) (t : TypeId) (w0 : World) (h : w.alloc (.cells i.cells t) = w0) :
    SixAt w0 w.heap.size i ∧ Below w.heap.size w w0 ∧ w0.heap.size = w.heap.size + 1 := by
  subst h
  exact ⟨SixAt.new w i t, (Below.refl _ w).alloc (Nat.le_refl _) _, by simp⟩

theorem TabsAt.step {N : Nat} {w0 w : World} (h : TabsAt w0) (hz : w0.heap.size = N) (hb : Below N w0 w) : TabsAt w := by
  subst hz; exact h.below hb

/-- An instruction that lies there, whatever new block is made. -/
def SixMore (w : World) (b : Nat) (i : I6) : Prop :=
  (∀ o, (w.alloc o).cell? ⟨b, 0, none⟩ = some (.int .i64 i.op)) ∧ (∀ o, (w.alloc o).cell? ⟨b, 1, none⟩ = some (.int .i64 i.rd)) ∧ (∀ o, (w.alloc o).cell? ⟨b, 2, none⟩ = some (.int .i64 i.rs1)) ∧ (∀ o, (w.alloc o).cell? ⟨b, 3, none⟩ = some (.int .i64 i.rs2)) ∧ (∀ o, (w.alloc o).cell? ⟨b, 4, none⟩ = some (.int .i64 i.imm)) ∧ (∀ o, (w.alloc o).cell? ⟨b, 5, none⟩ = some (.int .i64 i.csr))
theorem SixAt.more {w : World} {b : Nat} {i : I6} (h : SixAt w b i) : SixMore w b i := by
  have hb : ∀ o, Below w.heap.size w (w.alloc o) := fun o => (Below.refl _ w).alloc (Nat.le_refl _) _
  have hl := block_lt_of_cell h.1
  exact ⟨fun o => (h.below (hb o) hl).1, fun o => (h.below (hb o) hl).2.1, fun o => (h.below (hb o) hl).2.2.1, fun o => (h.below (hb o) hl).2.2.2.1, fun o => (h.below (hb o) hl).2.2.2.2.1, fun o => (h.below (hb o) hl).2.2.2.2.2⟩

set_option maxHeartbeats 2000000 in
set_option maxRecDepth 100000 in
theorem back_walk (v : Nat) (hv : v < 4294967296) (i : I6) (w : World) (hT : TabsAt w) (hd : decN v = 0) (hi : encN i ≠ 0) :
    Calls Tryd.prog 6 #[.int .u32 v, .agg i.cells] w fun e w' => e = .returned (.bool true) ∧ Below w.heap.size w w' := by
  have HE := hide encode_all
  have HC := hide check_all
  have HD := hide decode_all
  have HS := hide sure_any
  have HT := hide hT
  have HN := hide one_new
  have f1 : errno (decN v) = .nilIface := by rw [hd]; rfl
  have f2 : errno (encN (decI v)) = .nilIface := by rw [(enc_dec v hv hd).1]; rfl
  have f3 : encW (decI v) = v := (enc_dec v hv hd).2
  have f4 := errno_pos _ hi
  clear hT hd hi
  unfold I6.cells at *
  go_enter Tryd.func6, Tryd.ntmps6
  go_wp2_with (fail)
  obtain ⟨w0, hw0⟩ : ∃ w0, w.alloc (.cells #[.int .i64 i.op, .int .i64 i.rd, .int .i64 i.rs1, .int .i64 i.rs2, .int .i64 i.imm, .int .i64 i.csr] 29) = w0 := ⟨_, rfl⟩
  have HN0 := hide (HN.out _ _ _ w0 hw0)
  rw [hw0]
  clear hw0
  have hb := Below.refl (w.heap.size + 1) w0
  refine (HD.out _ hv _ ?_).mono ?_
  · exact HT.out.below HN0.out.2.1
  rintro e w2 ⟨rfl, hb2⟩
  replace hb := below_step HN0.out.2.2 hb hb2
  clear hb2
  obtain ⟨a0, a1, a2, a3, a4, a5⟩ := (HN0.out.1.below hb (by omega)).more
  go_wp2_with (fail)
  clear a0 a1 a2 a3 a4 a5
  obtain ⟨w1, hw1⟩ : ∃ w1, w2.alloc (.cells #[.int .i64 (decI v).op, .int .i64 (decI v).rd, .int .i64 (decI v).rs1, .int .i64 (decI v).rs2, .int .i64 (decI v).imm, .int .i64 (decI v).csr] 24) = w1 := ⟨_, rfl⟩
  have HN1 := hide (HN.out _ _ _ w1 hw1)
  rw [hw1]
  clear hw1
  have HB1 := hide (below_step HN0.out.2.2 hb HN1.out.2.1)
  have HL1 : Hid (w.heap.size < w2.heap.size + 1) := by have := hb.size; have := HN0.out.2.2; show _ < _; omega
  clear hb
  have HI1 := hide (HN0.out.1.below HB1.out (by omega))
  have HT1 := hide (HT.out.below (HN0.out.2.1.trans (HB1.out.mono (by omega))))
  have HX1 := hide HN1.out.1
  have HZ1 := hide HN1.out.2.2
  have hb := Below.refl (w2.heap.size + 1) w1
  go_wp2_with (first | (go_at_call 13; refine (HE.out _ _ ?_).mono ?_; exact HT1.out.step HZ1.out hb; rintro e w3 ⟨rfl, hb3⟩; replace hb := below_step HZ1.out hb hb3; clear hb3; obtain ⟨c0, c1, c2, c3, c4, c5⟩ := HI1.out.below hb HL1.out; obtain ⟨d0, d1, d2, d3, d4, d5⟩ := HX1.out.below hb (by omega)) | (go_at_call 15; refine (HC.out _ _ ?_).mono ?_; exact HT1.out.step HZ1.out hb; rintro e w3 ⟨rfl, hb3⟩; replace hb := below_step HZ1.out hb hb3; clear hb3; obtain ⟨c0, c1, c2, c3, c4, c5⟩ := HI1.out.below hb HL1.out) | (go_at_call 9; refine (HD.out _ (encW_lt _) _ ?_).mono ?_; exact HT1.out.step HZ1.out hb; rintro e w3 ⟨rfl, hb3⟩; replace hb := below_step HZ1.out hb hb3; clear hb3; obtain ⟨c0, c1, c2, c3, c4, c5⟩ := (HI1.out.below hb HL1.out).more) | (go_at_call 12; refine (HS.out _ ?_).mono ?_; (first | exact HT1.out.step HZ1.out hb | exact HT1.out.step HZ1.out (hb.alloc (by have := hb.size; have := HZ1.out; omega) _)); rintro e w5 ⟨rfl, hb5⟩))
  go_ret
  refine ⟨rfl, ?_⟩
  have hw := HN0.out.2.1.trans (HB1.out.mono (by omega))
  refine hw.trans (Below.mono ?_ (show w.heap.size ≤ w2.heap.size + 1 by have := HL1.out; omega))
  first | exact below_step HZ1.out hb hb5 | exact below_step HZ1.out (hb.alloc (by have := hb.size; have := HZ1.out; omega) _) hb5

set_option maxHeartbeats 2000000 in
set_option maxRecDepth 100000 in
theorem back_walk2 (v : Nat) (hv : v < 4294967296) (i : I6) (w : World) (hT : TabsAt w) (hd : decN v = 0) (hi : encN i = 0) :
    Calls Tryd.prog 6 #[.int .u32 v, .agg i.cells] w fun e w' => e = .returned (.bool true) ∧ Below w.heap.size w w' := by
  have HE := hide encode_all
  have HC := hide check_all
  have HD := hide decode_all
  have HS := hide sure_any
  have HT := hide hT
  have HN := hide one_new
  have f1 : errno (decN v) = .nilIface := by rw [hd]; rfl
  have f2 : errno (encN (decI v)) = .nilIface := by rw [(enc_dec v hv hd).1]; rfl
  have f3 : encW (decI v) = v := (enc_dec v hv hd).2
  have f4 : errno (encN i) = .nilIface := by rw [hi]; rfl
  have f5 : errno (decN (encW i)) = .nilIface := by rw [(dec_enc i hi).1]; rfl
  have f6 : decI (encW i) = i := (dec_enc i hi).2
  have heq := eql_inst i i
  rw [I6.same_self] at heq
  clear hT hd hi
  unfold I6.cells at *
  go_enter Tryd.func6, Tryd.ntmps6
  go_wp2_with (fail)
  obtain ⟨w0, hw0⟩ : ∃ w0, w.alloc (.cells #[.int .i64 i.op, .int .i64 i.rd, .int .i64 i.rs1, .int .i64 i.rs2, .int .i64 i.imm, .int .i64 i.csr] 29) = w0 := ⟨_, rfl⟩
  have HN0 := hide (HN.out _ _ _ w0 hw0)
  rw [hw0]
  clear hw0
  have hb := Below.refl (w.heap.size + 1) w0
  refine (HD.out _ hv _ ?_).mono ?_
  · exact HT.out.below HN0.out.2.1
  rintro e w2 ⟨rfl, hb2⟩
  replace hb := below_step HN0.out.2.2 hb hb2
  clear hb2
  obtain ⟨a0, a1, a2, a3, a4, a5⟩ := (HN0.out.1.below hb (by omega)).more
  go_wp2_with (fail)
  clear a0 a1 a2 a3 a4 a5
  obtain ⟨w1, hw1⟩ : ∃ w1, w2.alloc (.cells #[.int .i64 (decI v).op, .int .i64 (decI v).rd, .int .i64 (decI v).rs1, .int .i64 (decI v).rs2, .int .i64 (decI v).imm, .int .i64 (decI v).csr] 24) = w1 := ⟨_, rfl⟩
  have HN1 := hide (HN.out _ _ _ w1 hw1)
  rw [hw1]
  clear hw1
  have HB1 := hide (below_step HN0.out.2.2 hb HN1.out.2.1)
  have HL1 : Hid (w.heap.size < w2.heap.size + 1) := by have := hb.size; have := HN0.out.2.2; show _ < _; omega
  clear hb
  have HI1 := hide (HN0.out.1.below HB1.out (by omega))
  have HT1 := hide (HT.out.below (HN0.out.2.1.trans (HB1.out.mono (by omega))))
  have HX1 := hide HN1.out.1
  have HZ1 := hide HN1.out.2.2
  have hb := Below.refl (w2.heap.size + 1) w1
  go_wp2_with (first | (go_at_call 13; refine (HE.out _ _ ?_).mono ?_; exact HT1.out.step HZ1.out hb; rintro e w3 ⟨rfl, hb3⟩; replace hb := below_step HZ1.out hb hb3; clear hb3; obtain ⟨c0, c1, c2, c3, c4, c5⟩ := HI1.out.below hb HL1.out; obtain ⟨d0, d1, d2, d3, d4, d5⟩ := HX1.out.below hb (by omega)) | (go_at_call 15; refine (HC.out _ _ ?_).mono ?_; exact HT1.out.step HZ1.out hb; rintro e w3 ⟨rfl, hb3⟩; replace hb := below_step HZ1.out hb hb3; clear hb3; obtain ⟨c0, c1, c2, c3, c4, c5⟩ := HI1.out.below hb HL1.out) | (go_at_call 9; refine (HD.out _ (encW_lt _) _ ?_).mono ?_; exact HT1.out.step HZ1.out hb; rintro e w3 ⟨rfl, hb3⟩; replace hb := below_step HZ1.out hb hb3; clear hb3; obtain ⟨c0, c1, c2, c3, c4, c5⟩ := (HI1.out.below hb HL1.out).more) | (go_at_call 12; refine (HS.out _ ?_).mono ?_; (first | exact HT1.out.step HZ1.out hb | exact HT1.out.step HZ1.out (hb.alloc (by have := hb.size; have := HZ1.out; omega) _)); rintro e w5 ⟨rfl, hb5⟩))
  go_ret
  refine ⟨rfl, ?_⟩
  have hw := HN0.out.2.1.trans (HB1.out.mono (by omega))
  refine hw.trans (Below.mono ?_ (show w.heap.size ≤ w2.heap.size + 1 by have := HL1.out; omega))
  first | exact below_step HZ1.out hb hb5 | exact below_step HZ1.out (hb.alloc (by have := hb.size; have := HZ1.out; omega) _) hb5

set_option maxHeartbeats 2000000 in
set_option maxRecDepth 100000 in
theorem back_walk3 (v : Nat) (hv : v < 4294967296) (i : I6) (w : World) (hT : TabsAt w) (hd : decN v ≠ 0) (hi : encN i ≠ 0) :
    Calls Tryd.prog 6 #[.int .u32 v, .agg i.cells] w fun e w' => e = .returned (.bool true) ∧ Below w.heap.size w w' := by
  have HE := hide encode_all
  have HC := hide check_all
  have HD := hide decode_all
  have HS := hide sure_any
  have HT := hide hT
  have HN := hide one_new
  have f1 := errno_pos _ hd
  have f4 := errno_pos _ hi
  clear hT hd hi
  unfold I6.cells at *
  go_enter Tryd.func6, Tryd.ntmps6
  go_wp2_with (fail)
  obtain ⟨w0, hw0⟩ : ∃ w0, w.alloc (.cells #[.int .i64 i.op, .int .i64 i.rd, .int .i64 i.rs1, .int .i64 i.rs2, .int .i64 i.imm, .int .i64 i.csr] 29) = w0 := ⟨_, rfl⟩
  have HN0 := hide (HN.out _ _ _ w0 hw0)
  rw [hw0]
  clear hw0
  have hb := Below.refl (w.heap.size + 1) w0
  refine (HD.out _ hv _ ?_).mono ?_
  · exact HT.out.below HN0.out.2.1
  rintro e w2 ⟨rfl, hb2⟩
  replace hb := below_step HN0.out.2.2 hb hb2
  clear hb2
  obtain ⟨a0, a1, a2, a3, a4, a5⟩ := (HN0.out.1.below hb (by omega)).more
  go_wp2_with (fail)
  clear a0 a1 a2 a3 a4 a5
  obtain ⟨w1, hw1⟩ : ∃ w1, w2.alloc (.cells #[.int .i64 (decI v).op, .int .i64 (decI v).rd, .int .i64 (decI v).rs1, .int .i64 (decI v).rs2, .int .i64 (decI v).imm, .int .i64 (decI v).csr] 24) = w1 := ⟨_, rfl⟩
  have HN1 := hide (HN.out _ _ _ w1 hw1)
  rw [hw1]
  clear hw1
  have HB1 := hide (below_step HN0.out.2.2 hb HN1.out.2.1)
  have HL1 : Hid (w.heap.size < w2.heap.size + 1) := by have := hb.size; have := HN0.out.2.2; show _ < _; omega
  clear hb
  have HI1 := hide (HN0.out.1.below HB1.out (by omega))
  have HT1 := hide (HT.out.below (HN0.out.2.1.trans (HB1.out.mono (by omega))))
  have HX1 := hide HN1.out.1
  have HZ1 := hide HN1.out.2.2
  have hb := Below.refl (w2.heap.size + 1) w1
  go_wp2_with (first | (go_at_call 13; refine (HE.out _ _ ?_).mono ?_; exact HT1.out.step HZ1.out hb; rintro e w3 ⟨rfl, hb3⟩; replace hb := below_step HZ1.out hb hb3; clear hb3; obtain ⟨c0, c1, c2, c3, c4, c5⟩ := HI1.out.below hb HL1.out; obtain ⟨d0, d1, d2, d3, d4, d5⟩ := HX1.out.below hb (by omega)) | (go_at_call 15; refine (HC.out _ _ ?_).mono ?_; exact HT1.out.step HZ1.out hb; rintro e w3 ⟨rfl, hb3⟩; replace hb := below_step HZ1.out hb hb3; clear hb3; obtain ⟨c0, c1, c2, c3, c4, c5⟩ := HI1.out.below hb HL1.out) | (go_at_call 9; refine (HD.out _ (encW_lt _) _ ?_).mono ?_; exact HT1.out.step HZ1.out hb; rintro e w3 ⟨rfl, hb3⟩; replace hb := below_step HZ1.out hb hb3; clear hb3; obtain ⟨c0, c1, c2, c3, c4, c5⟩ := (HI1.out.below hb HL1.out).more) | (go_at_call 12; refine (HS.out _ ?_).mono ?_; (first | exact HT1.out.step HZ1.out hb | exact HT1.out.step HZ1.out (hb.alloc (by have := hb.size; have := HZ1.out; omega) _)); rintro e w5 ⟨rfl, hb5⟩))
  go_ret
  refine ⟨rfl, ?_⟩
  have hw := HN0.out.2.1.trans (HB1.out.mono (by omega))
  refine hw.trans (Below.mono ?_ (show w.heap.size ≤ w2.heap.size + 1 by have := HL1.out; omega))
  first | exact below_step HZ1.out hb hb5 | exact below_step HZ1.out (hb.alloc (by have := hb.size; have := HZ1.out; omega) _) hb5

set_option maxHeartbeats 2000000 in
set_option maxRecDepth 100000 in
theorem back_walk4 (v : Nat) (hv : v < 4294967296) (i : I6) (w : World) (hT : TabsAt w) (hd : decN v ≠ 0) (hi : encN i = 0) :
    Calls Tryd.prog 6 #[.int .u32 v, .agg i.cells] w fun e w' => e = .returned (.bool true) ∧ Below w.heap.size w w' := by
  have HE := hide encode_all
  have HC := hide check_all
  have HD := hide decode_all
  have HS := hide sure_any
  have HT := hide hT
  have HN := hide one_new
  have f1 := errno_pos _ hd
  have f4 : errno (encN i) = .nilIface := by rw [hi]; rfl
  have f5 : errno (decN (encW i)) = .nilIface := by rw [(dec_enc i hi).1]; rfl
  have f6 : decI (encW i) = i := (dec_enc i hi).2
  have heq := eql_inst i i
  rw [I6.same_self] at heq
  clear hT hd hi
  unfold I6.cells at *
  go_enter Tryd.func6, Tryd.ntmps6
  go_wp2_with (fail)
  obtain ⟨w0, hw0⟩ : ∃ w0, w.alloc (.cells #[.int .i64 i.op, .int .i64 i.rd, .int .i64 i.rs1, .int .i64 i.rs2, .int .i64 i.imm, .int .i64 i.csr] 29) = w0 := ⟨_, rfl⟩
  have HN0 := hide (HN.out _ _ _ w0 hw0)
  rw [hw0]
  clear hw0
  have hb := Below.refl (w.heap.size + 1) w0
  refine (HD.out _ hv _ ?_).mono ?_
  · exact HT.out.below HN0.out.2.1
  rintro e w2 ⟨rfl, hb2⟩
  replace hb := below_step HN0.out.2.2 hb hb2
  clear hb2
  obtain ⟨a0, a1, a2, a3, a4, a5⟩ := (HN0.out.1.below hb (by omega)).more
  go_wp2_with (fail)
  clear a0 a1 a2 a3 a4 a5
  obtain ⟨w1, hw1⟩ : ∃ w1, w2.alloc (.cells #[.int .i64 (decI v).op, .int .i64 (decI v).rd, .int .i64 (decI v).rs1, .int .i64 (decI v).rs2, .int .i64 (decI v).imm, .int .i64 (decI v).csr] 24) = w1 := ⟨_, rfl⟩
  have HN1 := hide (HN.out _ _ _ w1 hw1)
  rw [hw1]
  clear hw1
  have HB1 := hide (below_step HN0.out.2.2 hb HN1.out.2.1)
  have HL1 : Hid (w.heap.size < w2.heap.size + 1) := by have := hb.size; have := HN0.out.2.2; show _ < _; omega
  clear hb
  have HI1 := hide (HN0.out.1.below HB1.out (by omega))
  have HT1 := hide (HT.out.below (HN0.out.2.1.trans (HB1.out.mono (by omega))))
  have HX1 := hide HN1.out.1
  have HZ1 := hide HN1.out.2.2
  have hb := Below.refl (w2.heap.size + 1) w1
  go_wp2_with (first | (go_at_call 13; refine (HE.out _ _ ?_).mono ?_; exact HT1.out.step HZ1.out hb; rintro e w3 ⟨rfl, hb3⟩; replace hb := below_step HZ1.out hb hb3; clear hb3; obtain ⟨c0, c1, c2, c3, c4, c5⟩ := HI1.out.below hb HL1.out; obtain ⟨d0, d1, d2, d3, d4, d5⟩ := HX1.out.below hb (by omega)) | (go_at_call 15; refine (HC.out _ _ ?_).mono ?_; exact HT1.out.step HZ1.out hb; rintro e w3 ⟨rfl, hb3⟩; replace hb := below_step HZ1.out hb hb3; clear hb3; obtain ⟨c0, c1, c2, c3, c4, c5⟩ := HI1.out.below hb HL1.out) | (go_at_call 9; refine (HD.out _ (encW_lt _) _ ?_).mono ?_; exact HT1.out.step HZ1.out hb; rintro e w3 ⟨rfl, hb3⟩; replace hb := below_step HZ1.out hb hb3; clear hb3; obtain ⟨c0, c1, c2, c3, c4, c5⟩ := (HI1.out.below hb HL1.out).more) | (go_at_call 12; refine (HS.out _ ?_).mono ?_; (first | exact HT1.out.step HZ1.out hb | exact HT1.out.step HZ1.out (hb.alloc (by have := hb.size; have := HZ1.out; omega) _)); rintro e w5 ⟨rfl, hb5⟩))
  go_ret
  refine ⟨rfl, ?_⟩
  have hw := HN0.out.2.1.trans (HB1.out.mono (by omega))
  refine hw.trans (Below.mono ?_ (show w.heap.size ≤ w2.heap.size + 1 by have := HL1.out; omega))
  first | exact below_step HZ1.out hb hb5 | exact below_step HZ1.out (hb.alloc (by have := hb.size; have := HZ1.out; omega) _) hb5

theorem back_law (v : Nat) (hv : v < 4294967296) (i : I6) (w : World) (hT : TabsAt w) :
    Calls Tryd.prog 6 #[.int .u32 v, .agg i.cells] w fun e w' => e = .returned (.bool true) ∧ Below w.heap.size w w' := by
  by_cases hd : decN v = 0
  · by_cases hi : encN i = 0
    · exact back_walk2 v hv i w hT hd hi
    · exact back_walk v hv i w hT hd hi
  · by_cases hi : encN i = 0
    · exact back_walk4 v hv i w hT hd hi
    · exact back_walk3 v hv i w hT hd hi
end Go.Proofs.YtccndehhbccmgaaDoor
