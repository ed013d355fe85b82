/-
  The law's both: two memories of the same words.
-/
import Derived.Test.YtbggkoahofnnjaaGreatDoorJR22
open Go.Proofs.Tryz
set_option linter.unusedVariables false
set_option linter.unusedSimpArgs false
namespace Go.Proofs.YtbggkoahofnnjaaGreatDoor
open Go.RowKit
set_option maxHeartbeats 2000000
attribute [local go_sem] Rg.at0 Rg.at1 Rg.at2 Rg.at3 Rg.at4 Rg.at5
theorem next_bad (r : Rg) (hr0 : r.Ok) (hc : chkR r = false) (b : Nat) (w : World) : Calls prog 79 #[.agg r.cells, .pointer (some ⟨b, 0, none⟩)] w fun e w' => e = .returned (.tuple #[.agg zeroRg.cells, .int .i64 0, .bool false, .iface 82 (.int .i64 1)]) ∧ Below w.heap.size w w' := by
  have HC : Hid (∀ W, Calls prog 105 #[.agg r.cells, .pointer (some ⟨b, 0, none⟩)] W fun e w' => e = .returned (.iface 82 (.int .i64 1)) ∧ Below W.heap.size W w') := hide (fun W => by have := rcheckw_any r hr0 b W; rw [hc] at this; exact this)
  clear hc hr0
  go_enter func79, ntmps79
  go_wp2_with (first | ((with_reducible refine bx_rp w.heap.size r ?_ ?_ ?_); exact rfl; exact rfl; intro W hr hb hz) | ((with_reducible refine al_rp (w.heap.size + 1) ?_ ?_); exact hz.out; intro W hq hb' hz'; replace hr := hr.bl (hz.out ▸ hb'); replace hb := hb.trans (hb'.mono (by omega)); replace hz := hz') | ((with_reducible refine ld_rp w.heap.size _ hr ?_ ?_ ?_); exact rfl; exact rfl) | (go_at_call 105; (with_reducible refine (HC.out _).mono ?_); rintro e W ⟨rfl, hbc⟩; replace hr := hr.bl hbc; replace hq := hq.bl hbc; replace hb := below_bl rfl hb hbc) | ((with_reducible refine st_rp (w.heap.size + 1) _ zeroRg hq ?_ ?_ ?_); exact rfl; exact rfl; intro W hnew ho; replace hr := hr.only ho (by omega); replace hq := hnew; replace hb := ho.bel _ _ (by omega) hb))
  refine bodyPost_ret (results_cell_uuu results79 _ _ (w.heap.size + 1) _ _ _ rfl hq underlying34 rfl size_rp) rfl ?_
  exact ⟨rfl, hb⟩
theorem next_out (r : Rg) (hr0 : r.Ok) (hc : chkR r = true) {w : World} {B b p c : Nat} {f : Nat → Nat} {O : Nat → Prop} (h : RamB w B b p f c O) (hA : AreasAt w) (hG : 2 < B)  (h0 : plB p (avC r) 2 = false) : Calls prog 79 #[.agg r.cells, .pointer (some ⟨b, 0, none⟩)] w fun e w' => e = .returned (.tuple #[.agg zeroRg.cells, .int .i64 0, .bool false, .iface 82 (.int .i64 22)]) ∧ ∃ O', RamB w' B b p f c O' ∧ Went B O O' w w' := by
  have hB0 := h.base
  have hGw : 2 < w.heap.size := Nat.lt_of_lt_of_le hG hB0
  have hA0 := hA
  clear hA
  obtain ⟨k, hk, hk0, hk1⟩ := chkR_sz hc
  obtain ⟨al1, al2, al3⟩ := chkR_al hc
  have HC : Hid (∀ W, Calls prog 105 #[.agg r.cells, .pointer (some ⟨b, 0, none⟩)] W fun e w' => e = .returned .nilIface ∧ Below W.heap.size W w') := hide (fun W => by have := rcheckw_any r hr0 b W; rw [hc] at this; exact this)
  have hla := hr0.la
  have hav := hr0.av
  have HL1 : Hid (∀ W O1, RamB W B b p f c O1 → AreasAt W → Calls prog 106 #[.pointer (some ⟨b, 0, none⟩), .int .u32 (avC r : Nat), .int .i64 2] W fun e w' => e = .returned (.tuple #[.int .u32 0, .iface 82 (.int .i64 22)]) ∧ ∃ O', RamB w' B b p f c O' ∧ Went B O1 O' W w') := hide (fun W O1 hM hA => rload_no hM hA hG (avC r) 2 (by unfold avC t32; omega) (by decide) (by unfold avC t32; omega) h0)
  have e1 : ((r.av : Int) + 2) % 4294967296 = ((avC r : Nat) : Int) := by unfold avC t32; omega
  generalize avC r = aC at *
  clear hk hr0 hc al1 al2 al3 h0
  go_enter func79, ntmps79
  go_wp2_with (first | ((with_reducible refine bx_rp w.heap.size r ?_ ?_ ?_); exact rfl; exact rfl; intro W hr hb hz) | ((with_reducible refine al_rp (w.heap.size + 1) ?_ ?_); exact hz.out; intro W hq hb' hz'; replace hr := hr.bl (hz.out ▸ hb'); replace hb := hb.trans (hb'.mono (by omega)); replace hz := hz'; have hM := h.bl hb; have hW := Went.of (O := O) hb hB0; have hA := hA0.bl hb; have hF := h.far 2; have hS : w.heap.size + 2 ≤ W.heap.size := Nat.le_of_eq hz.out.symm; have hB : B ≤ W.heap.size := Nat.le_trans hB0 hb.size; clear hb hz hb' hz') | ((with_reducible refine ld_rp w.heap.size _ hr ?_ ?_ ?_); exact rfl; exact rfl) | (go_at_call 105; (with_reducible refine (HC.out _).mono ?_); rintro e W ⟨rfl, hbc⟩; replace hM := hM.bl hbc; replace hW := hW.bl hbc hB; replace hA := hA.bl hbc; replace hB := Nat.le_trans hB hbc.size; replace hS := Nat.le_trans hS hbc.size; replace hr := hr.bl hbc; replace hq := hq.bl hbc) | ((with_reducible refine ld_rav w.heap.size _ _ hr ?_ ?_ ?_); exact rfl; exact rfl) | ((with_reducible refine ld_rla w.heap.size _ _ hr ?_ ?_ ?_); exact rfl; exact rfl) | (go_at_call 106; (with_reducible refine (HL1.out _ _ hM hA).mono ?_); rintro e W2 ⟨rfl, O2, hM2, hW2⟩; replace hr := hW2.row hr (hF.at 0 (by omega)); replace hq := hW2.row hq (hF.at 1 (by omega)); replace hA := hA.wentR hG hW2; replace hF := hF.went hW2 hS; replace hS := Nat.le_trans hS hW2.size; replace hW := hW.trans hW2; replace hB := Nat.le_trans hB hW2.size; replace hM := hM2; clear hM2 hW2) | ((with_reducible refine st_rp (w.heap.size + 1) _ zeroRg hq ?_ ?_ ?_); exact rfl; exact rfl; intro W hnew ho; replace hr := hr.only ho (by omega); replace hM := hM.only ho (hF.at 1 (by omega)); replace hA := hA.onlyR ho (by omega); replace hW := hW.only ho (by omega) (by omega); replace hS := (show w.heap.size + 2 ≤ W.heap.size by rw [ho.size]; exact hS); replace hB := (show B ≤ W.heap.size by rw [ho.size]; exact hB); replace hq := hnew; clear hnew ho))
  refine bodyPost_ret (results_cell_uuu results79 _ _ (w.heap.size + 1) _ _ _ rfl hq underlying34 rfl size_rp) rfl ?_
  exact ⟨rfl, _, hM, hW⟩
theorem next_far (r : Rg) (hr0 : r.Ok) (hc : chkR r = true) {w : World} {B b p c : Nat} {f : Nat → Nat} {O : Nat → Prop} (h : RamB w B b p f c O) (hA : AreasAt w) (hG : 2 < B) (h0 : plB p (avC r) 2 = true) (h1 : ahN r (numF f (plM (avC r)) 2) ≠ 0) (h3 : plB p (avH r) 2 = false) :
    Calls prog 79 #[.agg r.cells, .pointer (some ⟨b, 0, none⟩)] w fun e w' => e = .returned (.tuple #[.agg zeroRg.cells, .int .i64 0, .bool false, .iface 82 (.int .i64 22)]) ∧ ∃ O', RamB w' B b p f c O' ∧ Went B O O' w w' := by
  have hB0 := h.base
  have hGw : 2 < w.heap.size := Nat.lt_of_lt_of_le hG hB0
  have hA0 := hA
  clear hA
  obtain ⟨k, hk, hk0, hk1⟩ := chkR_sz hc
  obtain ⟨al1, al2, al3⟩ := chkR_al hc
  have HC : Hid (∀ W, Calls prog 105 #[.agg r.cells, .pointer (some ⟨b, 0, none⟩)] W fun e w' => e = .returned .nilIface ∧ Below W.heap.size W w') := hide (fun W => by have := rcheckw_any r hr0 b W; rw [hc] at this; exact this)
  have hla := hr0.la
  have hav := hr0.av
  have HL1 : Hid (∀ W O1, RamB W B b p f c O1 → AreasAt W → Calls prog 106 #[.pointer (some ⟨b, 0, none⟩), .int .u32 (avC r : Nat), .int .i64 2] W fun e w' => e = .returned (.tuple #[.int .u32 (numF f (plM (avC r)) 2 : Nat), .nilIface]) ∧ ∃ O', RamB w' B b p f c O' ∧ Went B O1 O' W w') := hide (fun W O1 hM hA => rload_ok hM hA hG (avC r) 2 (by unfold avC t32; omega) (by decide) (by unfold avC t32; omega) h0)
  have hcl : numF f (plM (avC r)) 2 < 65536 := numF_lt h.small _ 2
  have e1 : ((r.av : Int) + 2) % 4294967296 = ((avC r : Nat) : Int) := by unfold avC t32; omega
  have ew : IntKind.u16.wrap (((numF f (plM (avC r)) 2 : Nat) : Int) - (r.la : Int)) = ((ahN r (numF f (plM (avC r)) 2) : Nat) : Int) := by rw [IntKind.wrap_u16]; unfold ahN; omega
  have ea : (((numF f (plM (avC r)) 2 : Nat) : Int) - (r.la : Int)) % 65536 = ((ahN r (numF f (plM (avC r)) 2) : Nat) : Int) := by unfold ahN; omega
  have HL2 : Hid (∀ W O1, RamB W B b p f c O1 → AreasAt W → Calls prog 106 #[.pointer (some ⟨b, 0, none⟩), .int .u32 (avH r : Nat), .int .i64 2] W fun e w' => e = .returned (.tuple #[.int .u32 0, .iface 82 (.int .i64 22)]) ∧ ∃ O', RamB w' B b p f c O' ∧ Went B O1 O' W w') := hide (fun W O1 hM hA => rload_no hM hA hG (avH r) 2 (by unfold avH t32; omega) (by decide) (by unfold avH t32; omega) h3)
  have hsl := slotN_lt hc r.la
  have HS : Hid (∀ W, Calls prog 107 #[.agg r.cells, .int .u16 (r.la : Nat)] W fun e w' => e = .returned (.int .u32 (slotN r r.la : Nat)) ∧ Below W.heap.size W w') := hide (fun W => slot_any r hc r.la hla W)
  have e2 : (((r.av : Int) + 4) % 4294967296 + (2 * ((slotN r r.la : Nat) : Int))) % 4294967296 = ((avH r : Nat) : Int) := by unfold avH t32; omega
  generalize avH r = aH at *
  generalize slotN r r.la = sl at *
  have e3 : Hid (IntKind.u32.wrap (2 * (sl : Int)) = 2 * (sl : Int)) := hide (by rw [IntKind.wrap_u32]; omega)
  have e4 : Hid (IntKind.u32.wrap ((r.av : Int) + 4) = ((r.av : Int) + 4) % 4294967296) := hide (by rw [IntKind.wrap_u32])
  have e5 : Hid (IntKind.u32.wrap (((r.av : Int) + 4) % 4294967296 + (2 * ((sl : Nat) : Int))) = (aH : Int)) := hide (by rw [IntKind.wrap_u32]; exact e2)
  generalize numF f (plM (avC r)) 2 = cnt at *
  generalize avC r = aC at *
  have hal : ahN r cnt < 65536 := Nat.mod_lt _ (by decide)
  generalize ahN r cnt = ah at *
  have t1 : ((ah : Int) == 0) = false := by simp; omega
  clear hk hr0 hc al1 al2 al3 h0 h1 h3 e2
  go_enter func79, ntmps79
  go_wp2_with (first | ((with_reducible refine bx_rp w.heap.size r ?_ ?_ ?_); exact rfl; exact rfl; intro W hr hb hz) | ((with_reducible refine al_rp (w.heap.size + 1) ?_ ?_); exact hz.out; intro W hq hb' hz'; replace hr := hr.bl (hz.out ▸ hb'); replace hb := hb.trans (hb'.mono (by omega)); replace hz := hz'; have hM := h.bl hb; have hW := Went.of (O := O) hb hB0; have hA := hA0.bl hb; have hF := h.far 2; have hS : w.heap.size + 2 ≤ W.heap.size := Nat.le_of_eq hz.out.symm; have hB : B ≤ W.heap.size := Nat.le_trans hB0 hb.size; clear hb hz hb' hz') | ((with_reducible refine ld_rp w.heap.size _ hr ?_ ?_ ?_); exact rfl; exact rfl) | (go_at_call 105; (with_reducible refine (HC.out _).mono ?_); rintro e W ⟨rfl, hbc⟩; replace hM := hM.bl hbc; replace hW := hW.bl hbc hB; replace hA := hA.bl hbc; replace hB := Nat.le_trans hB hbc.size; replace hS := Nat.le_trans hS hbc.size; replace hr := hr.bl hbc; replace hq := hq.bl hbc) | ((with_reducible refine ld_rav w.heap.size _ _ hr ?_ ?_ ?_); exact rfl; exact rfl) | ((with_reducible refine ld_rla w.heap.size _ _ hr ?_ ?_ ?_); exact rfl; exact rfl) | (go_at_call 106; (with_reducible refine (HL1.out _ _ hM hA).mono ?_); rintro e W2 ⟨rfl, O2, hM2, hW2⟩; replace hr := hW2.row hr (hF.at 0 (by omega)); replace hq := hW2.row hq (hF.at 1 (by omega)); replace hA := hA.wentR hG hW2; replace hF := hF.went hW2 hS; replace hS := Nat.le_trans hS hW2.size; replace hW := hW.trans hW2; replace hB := Nat.le_trans hB hW2.size; replace hM := hM2; clear hM2 hW2))
  refine wp_region_held_drew (S := (fun V => RowAt V w.heap.size r.cells 34)) (by kernel_rfl) ?_ (fun hHeld => ?_)
  · exact hr.dr
  replace hM := hM.dr
  replace hW := hW.dr
  replace hA := hA.drR
  replace hS : w.heap.size + 2 ≤ (World.drew _).heap.size := hS
  replace hB : B ≤ (World.drew _).heap.size := hB
  replace hq := hq.dr
  generalize World.drew _ = V at hHeld hM hW hA hS hB hq ⊢
  clear hr
  refine tkO 0 (.pointer (some ⟨b, 0, none⟩)) (by simp only [gT, gZ]; rfl) (puO (by (intro w hSw; (try dsimp only at hSw); go_simp))) ?_
  simp only [Act.put, pA, pZ, pS]
  refine tkO 1 (.pointer (some ⟨w.heap.size, 2, none⟩)) (by simp only [gT, gZ, gS]; rfl) (puO (by (intro w hSw; (try dsimp only at hSw); go_simp))) ?_
  simp only [Act.put, pA, pZ, pS]
  refine tkO 2 (.int .u32 (r.av : Nat)) (by simp only [gT, gZ, gS]; rfl) (y_rav w.heap.size r _ (fun V hV => hV) rfl) ?_
  simp only [Act.put, pA, pZ, pS]
  refine tkO 3 (.int .u32 (((r.av : Int) + 4) % 4294967296)) (by simp only [gT, gZ, gS]; rfl) (puO (by (intro w hSw; (try dsimp only at hSw); go_simp ; exact e4.out))) ?_
  simp only [Act.put, pA, pZ, pS]
  refine tkO 4 (.agg r.cells) (by simp only [gT, gZ, gS]; rfl) (y_rp w.heap.size r (fun V hV => hV) rfl rfl) ?_
  simp only [Act.put, pA, pZ, pS]
  refine tkO 5 (.pointer (some ⟨w.heap.size, 4, none⟩)) (by simp only [gT, gZ, gS]; rfl) (puO (by (intro w hSw; (try dsimp only at hSw); go_simp))) ?_
  simp only [Act.put, pA, pZ, pS]
  refine tkO 6 (.int .u16 (r.la : Nat)) (by simp only [gT, gZ, gS]; rfl) (y_rla w.heap.size r _ (fun V hV => hV) rfl) ?_
  simp only [Act.put, pA, pZ, pS]
  refine skO 7 (by simp only [gT, gZ, gS]; rfl) (fun K hK => ?_)
  rw [if_pos (by rfl)]
  go_simp
  (with_reducible refine (HS.out _).mono ?_)
  rintro e V2 ⟨rfl, hbc⟩
  have hH2 := hide (hHeld.bl hbc)
  replace hM := hM.bl hbc
  replace hW := hW.bl hbc hB
  replace hA := hA.bl hbc
  replace hB := Nat.le_trans hB hbc.size
  replace hS := Nat.le_trans hS hbc.size
  replace hq := hq.bl hbc
  clear hHeld hbc
  go_simp
  refine hK.out _ _ ?_ (fun hHeld => ?_)
  · exact hH2.out
  clear hK K
  clear hH2
  refine tkO 8 (.int .u32 (2 * (sl : Int))) (by simp only [gT, gZ, gS]; rfl) (puO (by (intro w hSw; (try dsimp only at hSw); go_simp ; exact e3.out))) ?_
  simp only [Act.put, pA, pZ, pS]
  refine tkO 9 (.int .u32 (aH : Nat)) (by simp only [gT, gZ, gS]; rfl) (puO (by (intro w hSw; (try dsimp only at hSw); go_simp ; exact e5.out))) ?_
  simp only [Act.put, pA, pZ, pS]
  refine skO 10 (by simp only [gT, gZ, gS]; rfl) (fun K hK => ?_)
  rw [if_pos (by rfl)]
  go_simp
  (with_reducible refine (HL2.out _ _ hM hA).mono ?_)
  rintro e V2 ⟨rfl, O2, hM2, hW2⟩
  have hH2 := hide (hW2.row hHeld (hF.at 0 (by omega)))
  replace hq := hW2.row hq (hF.at 1 (by omega))
  replace hA := hA.wentR hG hW2
  replace hF := hF.went hW2 hS
  replace hS := Nat.le_trans hS hW2.size
  replace hW := hW.trans hW2
  replace hB := Nat.le_trans hB hW2.size
  replace hM := hM2
  clear hM2 hW2 hHeld
  go_simp
  refine hK.out _ _ ?_ (fun hHeld => ?_)
  · exact hH2.out
  clear hK K
  clear hH2
  refine tkO 11 (.tuple #[.int .u32 0, (.iface 82 (.int .i64 22))]) (by simp only [gT, gZ, gS]; rfl) (puO (by (intro w hSw; (try dsimp only at hSw); go_simp))) ?_
  simp only [Act.put, pA, pZ, pS]
  refine tkO 12 (.int .u32 0) (by simp only [gT, gZ, gS]; rfl) (puO (by (intro w hSw; (try dsimp only at hSw); go_simp))) ?_
  simp only [Act.put, pA, pZ, pS]
  refine tkO 13 ((.iface 82 (.int .i64 22))) (by simp only [gT, gZ, gS]; rfl) (puO (by (intro w hSw; (try dsimp only at hSw); go_simp))) ?_
  simp only [Act.put, pA, pZ, pS]
  refine tkO 14 (.int .u32 0) (by simp only [gT, gZ, gS]; rfl) (puO (by (intro w hSw; (try dsimp only at hSw); go_simp))) ?_
  simp only [Act.put, pA, pZ, pS]
  refine tkO 15 ((.iface 82 (.int .i64 22))) (by simp only [gT, gZ, gS]; rfl) (puO (by (intro w hSw; (try dsimp only at hSw); go_simp))) ?_
  simp only [Act.put, pA, pZ, pS]
  refine wpAnyH_done (by kernel_rfl) ?_ _
  have hr := hHeld
  clear hHeld
  go_wp2_with (first | ((with_reducible refine ld_rsz w.heap.size _ _ hr ?_ ?_ ?_); exact rfl; exact rfl) | ((with_reducible refine ld_rla w.heap.size _ _ hr ?_ ?_ ?_); exact rfl; exact rfl) | ((with_reducible refine ld_rp w.heap.size _ hr ?_ ?_ ?_); exact rfl; exact rfl) | ((with_reducible refine st_rp (w.heap.size + 1) _ zeroRg hq ?_ ?_ ?_); exact rfl; exact rfl; intro W hnew ho; replace hr := hr.only ho (by omega); replace hM := hM.only ho (hF.at 1 (by omega)); replace hA := hA.onlyR ho (by omega); replace hW := hW.only ho (by omega) (by omega); replace hS := (show w.heap.size + 2 ≤ W.heap.size by rw [ho.size]; exact hS); replace hB := (show B ≤ W.heap.size by rw [ho.size]; exact hB); replace hq := hnew; clear hnew ho))
  refine bodyPost_ret (results_cell_uuu results79 _ _ (w.heap.size + 1) _ _ _ rfl hq underlying34 rfl size_rp) rfl ?_
  exact ⟨rfl, _, hM, hW⟩
theorem next_many (r : Rg) (hr0 : r.Ok) (hc : chkR r = true) {w : World} {B b p c : Nat} {f : Nat → Nat} {O : Nat → Prop} (h : RamB w B b p f c O) (hA : AreasAt w) (hG : 2 < B) (h0 : plB p (avC r) 2 = true) (h1 : ahN r (numF f (plM (avC r)) 2) ≠ 0) (h2 : r.sz < (ahN r (numF f (plM (avC r)) 2) : Int)) (h3 : plB p (avH r) 2 = true) :
    Calls prog 79 #[.agg r.cells, .pointer (some ⟨b, 0, none⟩)] w fun e w' => e = .returned (.tuple #[.agg zeroRg.cells, .int .i64 0, .bool false, .iface 82 (.int .i64 22)]) ∧ ∃ O', RamB w' B b p f c O' ∧ Went B O O' w w' := by
  have hB0 := h.base
  have hGw : 2 < w.heap.size := Nat.lt_of_lt_of_le hG hB0
  have hA0 := hA
  clear hA
  obtain ⟨k, hk, hk0, hk1⟩ := chkR_sz hc
  obtain ⟨al1, al2, al3⟩ := chkR_al hc
  have HC : Hid (∀ W, Calls prog 105 #[.agg r.cells, .pointer (some ⟨b, 0, none⟩)] W fun e w' => e = .returned .nilIface ∧ Below W.heap.size W w') := hide (fun W => by have := rcheckw_any r hr0 b W; rw [hc] at this; exact this)
  have hla := hr0.la
  have hav := hr0.av
  have HL1 : Hid (∀ W O1, RamB W B b p f c O1 → AreasAt W → Calls prog 106 #[.pointer (some ⟨b, 0, none⟩), .int .u32 (avC r : Nat), .int .i64 2] W fun e w' => e = .returned (.tuple #[.int .u32 (numF f (plM (avC r)) 2 : Nat), .nilIface]) ∧ ∃ O', RamB w' B b p f c O' ∧ Went B O1 O' W w') := hide (fun W O1 hM hA => rload_ok hM hA hG (avC r) 2 (by unfold avC t32; omega) (by decide) (by unfold avC t32; omega) h0)
  have hcl : numF f (plM (avC r)) 2 < 65536 := numF_lt h.small _ 2
  have e1 : ((r.av : Int) + 2) % 4294967296 = ((avC r : Nat) : Int) := by unfold avC t32; omega
  have ew : IntKind.u16.wrap (((numF f (plM (avC r)) 2 : Nat) : Int) - (r.la : Int)) = ((ahN r (numF f (plM (avC r)) 2) : Nat) : Int) := by rw [IntKind.wrap_u16]; unfold ahN; omega
  have ea : (((numF f (plM (avC r)) 2 : Nat) : Int) - (r.la : Int)) % 65536 = ((ahN r (numF f (plM (avC r)) 2) : Nat) : Int) := by unfold ahN; omega
  have HL2 : Hid (∀ W O1, RamB W B b p f c O1 → AreasAt W → Calls prog 106 #[.pointer (some ⟨b, 0, none⟩), .int .u32 (avH r : Nat), .int .i64 2] W fun e w' => e = .returned (.tuple #[.int .u32 (numF f (plM (avH r)) 2 : Nat), .nilIface]) ∧ ∃ O', RamB w' B b p f c O' ∧ Went B O1 O' W w') := hide (fun W O1 hM hA => rload_ok hM hA hG (avH r) 2 (by unfold avH t32; omega) (by decide) (by unfold avH t32; omega) h3)
  have hsl := slotN_lt hc r.la
  have HS : Hid (∀ W, Calls prog 107 #[.agg r.cells, .int .u16 (r.la : Nat)] W fun e w' => e = .returned (.int .u32 (slotN r r.la : Nat)) ∧ Below W.heap.size W w') := hide (fun W => slot_any r hc r.la hla W)
  have e2 : (((r.av : Int) + 4) % 4294967296 + (2 * ((slotN r r.la : Nat) : Int))) % 4294967296 = ((avH r : Nat) : Int) := by unfold avH t32; omega
  have hdl : numF f (plM (avH r)) 2 < 65536 := numF_lt h.small _ 2
  generalize numF f (plM (avH r)) 2 = hd at *
  generalize avH r = aH at *
  generalize slotN r r.la = sl at *
  have e3 : Hid (IntKind.u32.wrap (2 * (sl : Int)) = 2 * (sl : Int)) := hide (by rw [IntKind.wrap_u32]; omega)
  have e4 : Hid (IntKind.u32.wrap ((r.av : Int) + 4) = ((r.av : Int) + 4) % 4294967296) := hide (by rw [IntKind.wrap_u32])
  have e5 : Hid (IntKind.u32.wrap (((r.av : Int) + 4) % 4294967296 + (2 * ((sl : Nat) : Int))) = (aH : Int)) := hide (by rw [IntKind.wrap_u32]; exact e2)
  generalize numF f (plM (avC r)) 2 = cnt at *
  generalize avC r = aC at *
  have hal : ahN r cnt < 65536 := Nat.mod_lt _ (by decide)
  generalize ahN r cnt = ah at *
  have t1 : ((ah : Int) == 0) = false := by simp; omega
  have t2 : decide (r.sz < (ah : Int)) = true := by simp; omega
  have t2b : (ah : Int) > r.sz := by omega
  clear hk hr0 hc al1 al2 al3 h0 h1 h3 e2
  go_enter func79, ntmps79
  go_wp2_with (first | ((with_reducible refine bx_rp w.heap.size r ?_ ?_ ?_); exact rfl; exact rfl; intro W hr hb hz) | ((with_reducible refine al_rp (w.heap.size + 1) ?_ ?_); exact hz.out; intro W hq hb' hz'; replace hr := hr.bl (hz.out ▸ hb'); replace hb := hb.trans (hb'.mono (by omega)); replace hz := hz'; have hM := h.bl hb; have hW := Went.of (O := O) hb hB0; have hA := hA0.bl hb; have hF := h.far 2; have hS : w.heap.size + 2 ≤ W.heap.size := Nat.le_of_eq hz.out.symm; have hB : B ≤ W.heap.size := Nat.le_trans hB0 hb.size; clear hb hz hb' hz') | ((with_reducible refine ld_rp w.heap.size _ hr ?_ ?_ ?_); exact rfl; exact rfl) | (go_at_call 105; (with_reducible refine (HC.out _).mono ?_); rintro e W ⟨rfl, hbc⟩; replace hM := hM.bl hbc; replace hW := hW.bl hbc hB; replace hA := hA.bl hbc; replace hB := Nat.le_trans hB hbc.size; replace hS := Nat.le_trans hS hbc.size; replace hr := hr.bl hbc; replace hq := hq.bl hbc) | ((with_reducible refine ld_rav w.heap.size _ _ hr ?_ ?_ ?_); exact rfl; exact rfl) | ((with_reducible refine ld_rla w.heap.size _ _ hr ?_ ?_ ?_); exact rfl; exact rfl) | (go_at_call 106; (with_reducible refine (HL1.out _ _ hM hA).mono ?_); rintro e W2 ⟨rfl, O2, hM2, hW2⟩; replace hr := hW2.row hr (hF.at 0 (by omega)); replace hq := hW2.row hq (hF.at 1 (by omega)); replace hA := hA.wentR hG hW2; replace hF := hF.went hW2 hS; replace hS := Nat.le_trans hS hW2.size; replace hW := hW.trans hW2; replace hB := Nat.le_trans hB hW2.size; replace hM := hM2; clear hM2 hW2))
  refine wp_region_held_drew (S := (fun V => RowAt V w.heap.size r.cells 34)) (by kernel_rfl) ?_ (fun hHeld => ?_)
  · exact hr.dr
  replace hM := hM.dr
  replace hW := hW.dr
  replace hA := hA.drR
  replace hS : w.heap.size + 2 ≤ (World.drew _).heap.size := hS
  replace hB : B ≤ (World.drew _).heap.size := hB
  replace hq := hq.dr
  generalize World.drew _ = V at hHeld hM hW hA hS hB hq ⊢
  clear hr
  refine tkO 0 (.pointer (some ⟨b, 0, none⟩)) (by simp only [gT, gZ]; rfl) (puO (by (intro w hSw; (try dsimp only at hSw); go_simp))) ?_
  simp only [Act.put, pA, pZ, pS]
  refine tkO 1 (.pointer (some ⟨w.heap.size, 2, none⟩)) (by simp only [gT, gZ, gS]; rfl) (puO (by (intro w hSw; (try dsimp only at hSw); go_simp))) ?_
  simp only [Act.put, pA, pZ, pS]
  refine tkO 2 (.int .u32 (r.av : Nat)) (by simp only [gT, gZ, gS]; rfl) (y_rav w.heap.size r _ (fun V hV => hV) rfl) ?_
  simp only [Act.put, pA, pZ, pS]
  refine tkO 3 (.int .u32 (((r.av : Int) + 4) % 4294967296)) (by simp only [gT, gZ, gS]; rfl) (puO (by (intro w hSw; (try dsimp only at hSw); go_simp ; exact e4.out))) ?_
  simp only [Act.put, pA, pZ, pS]
  refine tkO 4 (.agg r.cells) (by simp only [gT, gZ, gS]; rfl) (y_rp w.heap.size r (fun V hV => hV) rfl rfl) ?_
  simp only [Act.put, pA, pZ, pS]
  refine tkO 5 (.pointer (some ⟨w.heap.size, 4, none⟩)) (by simp only [gT, gZ, gS]; rfl) (puO (by (intro w hSw; (try dsimp only at hSw); go_simp))) ?_
  simp only [Act.put, pA, pZ, pS]
  refine tkO 6 (.int .u16 (r.la : Nat)) (by simp only [gT, gZ, gS]; rfl) (y_rla w.heap.size r _ (fun V hV => hV) rfl) ?_
  simp only [Act.put, pA, pZ, pS]
  refine skO 7 (by simp only [gT, gZ, gS]; rfl) (fun K hK => ?_)
  rw [if_pos (by rfl)]
  go_simp
  (with_reducible refine (HS.out _).mono ?_)
  rintro e V2 ⟨rfl, hbc⟩
  have hH2 := hide (hHeld.bl hbc)
  replace hM := hM.bl hbc
  replace hW := hW.bl hbc hB
  replace hA := hA.bl hbc
  replace hB := Nat.le_trans hB hbc.size
  replace hS := Nat.le_trans hS hbc.size
  replace hq := hq.bl hbc
  clear hHeld hbc
  go_simp
  refine hK.out _ _ ?_ (fun hHeld => ?_)
  · exact hH2.out
  clear hK K
  clear hH2
  refine tkO 8 (.int .u32 (2 * (sl : Int))) (by simp only [gT, gZ, gS]; rfl) (puO (by (intro w hSw; (try dsimp only at hSw); go_simp ; exact e3.out))) ?_
  simp only [Act.put, pA, pZ, pS]
  refine tkO 9 (.int .u32 (aH : Nat)) (by simp only [gT, gZ, gS]; rfl) (puO (by (intro w hSw; (try dsimp only at hSw); go_simp ; exact e5.out))) ?_
  simp only [Act.put, pA, pZ, pS]
  refine skO 10 (by simp only [gT, gZ, gS]; rfl) (fun K hK => ?_)
  rw [if_pos (by rfl)]
  go_simp
  (with_reducible refine (HL2.out _ _ hM hA).mono ?_)
  rintro e V2 ⟨rfl, O2, hM2, hW2⟩
  have hH2 := hide (hW2.row hHeld (hF.at 0 (by omega)))
  replace hq := hW2.row hq (hF.at 1 (by omega))
  replace hA := hA.wentR hG hW2
  replace hF := hF.went hW2 hS
  replace hS := Nat.le_trans hS hW2.size
  replace hW := hW.trans hW2
  replace hB := Nat.le_trans hB hW2.size
  replace hM := hM2
  clear hM2 hW2 hHeld
  go_simp
  refine hK.out _ _ ?_ (fun hHeld => ?_)
  · exact hH2.out
  clear hK K
  clear hH2
  refine tkO 11 (.tuple #[.int .u32 (hd : Nat), .nilIface]) (by simp only [gT, gZ, gS]; rfl) (puO (by (intro w hSw; (try dsimp only at hSw); go_simp))) ?_
  simp only [Act.put, pA, pZ, pS]
  refine tkO 12 (.int .u32 (hd : Nat)) (by simp only [gT, gZ, gS]; rfl) (puO (by (intro w hSw; (try dsimp only at hSw); go_simp))) ?_
  simp only [Act.put, pA, pZ, pS]
  refine tkO 13 (.nilIface) (by simp only [gT, gZ, gS]; rfl) (puO (by (intro w hSw; (try dsimp only at hSw); go_simp))) ?_
  simp only [Act.put, pA, pZ, pS]
  refine tkO 14 (.int .u32 (hd : Nat)) (by simp only [gT, gZ, gS]; rfl) (puO (by (intro w hSw; (try dsimp only at hSw); go_simp))) ?_
  simp only [Act.put, pA, pZ, pS]
  refine tkO 15 (.nilIface) (by simp only [gT, gZ, gS]; rfl) (puO (by (intro w hSw; (try dsimp only at hSw); go_simp))) ?_
  simp only [Act.put, pA, pZ, pS]
  refine wpAnyH_done (by kernel_rfl) ?_ _
  have hr := hHeld
  clear hHeld
  go_wp2_with (first | ((with_reducible refine ld_rsz w.heap.size _ _ hr ?_ ?_ ?_); exact rfl; exact rfl) | ((with_reducible refine ld_rla w.heap.size _ _ hr ?_ ?_ ?_); exact rfl; exact rfl) | ((with_reducible refine ld_rp w.heap.size _ hr ?_ ?_ ?_); exact rfl; exact rfl) | ((with_reducible refine st_rp (w.heap.size + 1) _ zeroRg hq ?_ ?_ ?_); exact rfl; exact rfl; intro W hnew ho; replace hr := hr.only ho (by omega); replace hM := hM.only ho (hF.at 1 (by omega)); replace hA := hA.onlyR ho (by omega); replace hW := hW.only ho (by omega) (by omega); replace hS := (show w.heap.size + 2 ≤ W.heap.size by rw [ho.size]; exact hS); replace hB := (show B ≤ W.heap.size by rw [ho.size]; exact hB); replace hq := hnew; clear hnew ho))
  refine bodyPost_ret (results_cell_uuu results79 _ _ (w.heap.size + 1) _ _ _ rfl hq underlying34 rfl size_rp) rfl ?_
  exact ⟨rfl, _, hM, hW⟩
theorem next_odd (r : Rg) (hr0 : r.Ok) (hc : chkR r = true) {w : World} {B b p c : Nat} {f : Nat → Nat} {O : Nat → Prop} (h : RamB w B b p f c O) (hA : AreasAt w) (hG : 2 < B) (h0 : plB p (avC r) 2 = true) (h1 : ahN r (numF f (plM (avC r)) 2) ≠ 0) (h2 : (ahN r (numF f (plM (avC r)) 2) : Int) ≤ r.sz) (h3 : plB p (avH r) 2 = true) (h4 : r.sz ≤ (numF f (plM (avH r)) 2 : Int)) :
    Calls prog 79 #[.agg r.cells, .pointer (some ⟨b, 0, none⟩)] w fun e w' => e = .returned (.tuple #[.agg zeroRg.cells, .int .i64 0, .bool false, .iface 82 (.int .i64 22)]) ∧ ∃ O', RamB w' B b p f c O' ∧ Went B O O' w w' := by
  have hB0 := h.base
  have hGw : 2 < w.heap.size := Nat.lt_of_lt_of_le hG hB0
  have hA0 := hA
  clear hA
  obtain ⟨k, hk, hk0, hk1⟩ := chkR_sz hc
  obtain ⟨al1, al2, al3⟩ := chkR_al hc
  have HC : Hid (∀ W, Calls prog 105 #[.agg r.cells, .pointer (some ⟨b, 0, none⟩)] W fun e w' => e = .returned .nilIface ∧ Below W.heap.size W w') := hide (fun W => by have := rcheckw_any r hr0 b W; rw [hc] at this; exact this)
  have hla := hr0.la
  have hav := hr0.av
  have HL1 : Hid (∀ W O1, RamB W B b p f c O1 → AreasAt W → Calls prog 106 #[.pointer (some ⟨b, 0, none⟩), .int .u32 (avC r : Nat), .int .i64 2] W fun e w' => e = .returned (.tuple #[.int .u32 (numF f (plM (avC r)) 2 : Nat), .nilIface]) ∧ ∃ O', RamB w' B b p f c O' ∧ Went B O1 O' W w') := hide (fun W O1 hM hA => rload_ok hM hA hG (avC r) 2 (by unfold avC t32; omega) (by decide) (by unfold avC t32; omega) h0)
  have hcl : numF f (plM (avC r)) 2 < 65536 := numF_lt h.small _ 2
  have e1 : ((r.av : Int) + 2) % 4294967296 = ((avC r : Nat) : Int) := by unfold avC t32; omega
  have ew : IntKind.u16.wrap (((numF f (plM (avC r)) 2 : Nat) : Int) - (r.la : Int)) = ((ahN r (numF f (plM (avC r)) 2) : Nat) : Int) := by rw [IntKind.wrap_u16]; unfold ahN; omega
  have ea : (((numF f (plM (avC r)) 2 : Nat) : Int) - (r.la : Int)) % 65536 = ((ahN r (numF f (plM (avC r)) 2) : Nat) : Int) := by unfold ahN; omega
  have HL2 : Hid (∀ W O1, RamB W B b p f c O1 → AreasAt W → Calls prog 106 #[.pointer (some ⟨b, 0, none⟩), .int .u32 (avH r : Nat), .int .i64 2] W fun e w' => e = .returned (.tuple #[.int .u32 (numF f (plM (avH r)) 2 : Nat), .nilIface]) ∧ ∃ O', RamB w' B b p f c O' ∧ Went B O1 O' W w') := hide (fun W O1 hM hA => rload_ok hM hA hG (avH r) 2 (by unfold avH t32; omega) (by decide) (by unfold avH t32; omega) h3)
  have hsl := slotN_lt hc r.la
  have HS : Hid (∀ W, Calls prog 107 #[.agg r.cells, .int .u16 (r.la : Nat)] W fun e w' => e = .returned (.int .u32 (slotN r r.la : Nat)) ∧ Below W.heap.size W w') := hide (fun W => slot_any r hc r.la hla W)
  have e2 : (((r.av : Int) + 4) % 4294967296 + (2 * ((slotN r r.la : Nat) : Int))) % 4294967296 = ((avH r : Nat) : Int) := by unfold avH t32; omega
  have hdl : numF f (plM (avH r)) 2 < 65536 := numF_lt h.small _ 2
  generalize numF f (plM (avH r)) 2 = hd at *
  generalize avH r = aH at *
  generalize slotN r r.la = sl at *
  have e3 : Hid (IntKind.u32.wrap (2 * (sl : Int)) = 2 * (sl : Int)) := hide (by rw [IntKind.wrap_u32]; omega)
  have e4 : Hid (IntKind.u32.wrap ((r.av : Int) + 4) = ((r.av : Int) + 4) % 4294967296) := hide (by rw [IntKind.wrap_u32])
  have e5 : Hid (IntKind.u32.wrap (((r.av : Int) + 4) % 4294967296 + (2 * ((sl : Nat) : Int))) = (aH : Int)) := hide (by rw [IntKind.wrap_u32]; exact e2)
  generalize numF f (plM (avC r)) 2 = cnt at *
  generalize avC r = aC at *
  have hal : ahN r cnt < 65536 := Nat.mod_lt _ (by decide)
  generalize ahN r cnt = ah at *
  have t1 : ((ah : Int) == 0) = false := by simp; omega
  have t2 : decide (r.sz < (ah : Int)) = false := by simp; omega
  have t3 : decide (r.sz ≤ (hd : Int)) = true := by simp; omega
  have t3b : r.sz ≤ (hd : Int) := by omega
  clear hk hr0 hc al1 al2 al3 h0 h1 h3 e2
  go_enter func79, ntmps79
  go_wp2_with (first | ((with_reducible refine bx_rp w.heap.size r ?_ ?_ ?_); exact rfl; exact rfl; intro W hr hb hz) | ((with_reducible refine al_rp (w.heap.size + 1) ?_ ?_); exact hz.out; intro W hq hb' hz'; replace hr := hr.bl (hz.out ▸ hb'); replace hb := hb.trans (hb'.mono (by omega)); replace hz := hz'; have hM := h.bl hb; have hW := Went.of (O := O) hb hB0; have hA := hA0.bl hb; have hF := h.far 2; have hS : w.heap.size + 2 ≤ W.heap.size := Nat.le_of_eq hz.out.symm; have hB : B ≤ W.heap.size := Nat.le_trans hB0 hb.size; clear hb hz hb' hz') | ((with_reducible refine ld_rp w.heap.size _ hr ?_ ?_ ?_); exact rfl; exact rfl) | (go_at_call 105; (with_reducible refine (HC.out _).mono ?_); rintro e W ⟨rfl, hbc⟩; replace hM := hM.bl hbc; replace hW := hW.bl hbc hB; replace hA := hA.bl hbc; replace hB := Nat.le_trans hB hbc.size; replace hS := Nat.le_trans hS hbc.size; replace hr := hr.bl hbc; replace hq := hq.bl hbc) | ((with_reducible refine ld_rav w.heap.size _ _ hr ?_ ?_ ?_); exact rfl; exact rfl) | ((with_reducible refine ld_rla w.heap.size _ _ hr ?_ ?_ ?_); exact rfl; exact rfl) | (go_at_call 106; (with_reducible refine (HL1.out _ _ hM hA).mono ?_); rintro e W2 ⟨rfl, O2, hM2, hW2⟩; replace hr := hW2.row hr (hF.at 0 (by omega)); replace hq := hW2.row hq (hF.at 1 (by omega)); replace hA := hA.wentR hG hW2; replace hF := hF.went hW2 hS; replace hS := Nat.le_trans hS hW2.size; replace hW := hW.trans hW2; replace hB := Nat.le_trans hB hW2.size; replace hM := hM2; clear hM2 hW2))
  refine wp_region_held_drew (S := (fun V => RowAt V w.heap.size r.cells 34)) (by kernel_rfl) ?_ (fun hHeld => ?_)
  · exact hr.dr
  replace hM := hM.dr
  replace hW := hW.dr
  replace hA := hA.drR
  replace hS : w.heap.size + 2 ≤ (World.drew _).heap.size := hS
  replace hB : B ≤ (World.drew _).heap.size := hB
  replace hq := hq.dr
  generalize World.drew _ = V at hHeld hM hW hA hS hB hq ⊢
  clear hr
  refine tkO 0 (.pointer (some ⟨b, 0, none⟩)) (by simp only [gT, gZ]; rfl) (puO (by (intro w hSw; (try dsimp only at hSw); go_simp))) ?_
  simp only [Act.put, pA, pZ, pS]
  refine tkO 1 (.pointer (some ⟨w.heap.size, 2, none⟩)) (by simp only [gT, gZ, gS]; rfl) (puO (by (intro w hSw; (try dsimp only at hSw); go_simp))) ?_
  simp only [Act.put, pA, pZ, pS]
  refine tkO 2 (.int .u32 (r.av : Nat)) (by simp only [gT, gZ, gS]; rfl) (y_rav w.heap.size r _ (fun V hV => hV) rfl) ?_
  simp only [Act.put, pA, pZ, pS]
  refine tkO 3 (.int .u32 (((r.av : Int) + 4) % 4294967296)) (by simp only [gT, gZ, gS]; rfl) (puO (by (intro w hSw; (try dsimp only at hSw); go_simp ; exact e4.out))) ?_
  simp only [Act.put, pA, pZ, pS]
  refine tkO 4 (.agg r.cells) (by simp only [gT, gZ, gS]; rfl) (y_rp w.heap.size r (fun V hV => hV) rfl rfl) ?_
  simp only [Act.put, pA, pZ, pS]
  refine tkO 5 (.pointer (some ⟨w.heap.size, 4, none⟩)) (by simp only [gT, gZ, gS]; rfl) (puO (by (intro w hSw; (try dsimp only at hSw); go_simp))) ?_
  simp only [Act.put, pA, pZ, pS]
  refine tkO 6 (.int .u16 (r.la : Nat)) (by simp only [gT, gZ, gS]; rfl) (y_rla w.heap.size r _ (fun V hV => hV) rfl) ?_
  simp only [Act.put, pA, pZ, pS]
  refine skO 7 (by simp only [gT, gZ, gS]; rfl) (fun K hK => ?_)
  rw [if_pos (by rfl)]
  go_simp
  (with_reducible refine (HS.out _).mono ?_)
  rintro e V2 ⟨rfl, hbc⟩
  have hH2 := hide (hHeld.bl hbc)
  replace hM := hM.bl hbc
  replace hW := hW.bl hbc hB
  replace hA := hA.bl hbc
  replace hB := Nat.le_trans hB hbc.size
  replace hS := Nat.le_trans hS hbc.size
  replace hq := hq.bl hbc
  clear hHeld hbc
  go_simp
  refine hK.out _ _ ?_ (fun hHeld => ?_)
  · exact hH2.out
  clear hK K
  clear hH2
  refine tkO 8 (.int .u32 (2 * (sl : Int))) (by simp only [gT, gZ, gS]; rfl) (puO (by (intro w hSw; (try dsimp only at hSw); go_simp ; exact e3.out))) ?_
  simp only [Act.put, pA, pZ, pS]
  refine tkO 9 (.int .u32 (aH : Nat)) (by simp only [gT, gZ, gS]; rfl) (puO (by (intro w hSw; (try dsimp only at hSw); go_simp ; exact e5.out))) ?_
  simp only [Act.put, pA, pZ, pS]
  refine skO 10 (by simp only [gT, gZ, gS]; rfl) (fun K hK => ?_)
  rw [if_pos (by rfl)]
  go_simp
  (with_reducible refine (HL2.out _ _ hM hA).mono ?_)
  rintro e V2 ⟨rfl, O2, hM2, hW2⟩
  have hH2 := hide (hW2.row hHeld (hF.at 0 (by omega)))
  replace hq := hW2.row hq (hF.at 1 (by omega))
  replace hA := hA.wentR hG hW2
  replace hF := hF.went hW2 hS
  replace hS := Nat.le_trans hS hW2.size
  replace hW := hW.trans hW2
  replace hB := Nat.le_trans hB hW2.size
  replace hM := hM2
  clear hM2 hW2 hHeld
  go_simp
  refine hK.out _ _ ?_ (fun hHeld => ?_)
  · exact hH2.out
  clear hK K
  clear hH2
  refine tkO 11 (.tuple #[.int .u32 (hd : Nat), .nilIface]) (by simp only [gT, gZ, gS]; rfl) (puO (by (intro w hSw; (try dsimp only at hSw); go_simp))) ?_
  simp only [Act.put, pA, pZ, pS]
  refine tkO 12 (.int .u32 (hd : Nat)) (by simp only [gT, gZ, gS]; rfl) (puO (by (intro w hSw; (try dsimp only at hSw); go_simp))) ?_
  simp only [Act.put, pA, pZ, pS]
  refine tkO 13 (.nilIface) (by simp only [gT, gZ, gS]; rfl) (puO (by (intro w hSw; (try dsimp only at hSw); go_simp))) ?_
  simp only [Act.put, pA, pZ, pS]
  refine tkO 14 (.int .u32 (hd : Nat)) (by simp only [gT, gZ, gS]; rfl) (puO (by (intro w hSw; (try dsimp only at hSw); go_simp))) ?_
  simp only [Act.put, pA, pZ, pS]
  refine tkO 15 (.nilIface) (by simp only [gT, gZ, gS]; rfl) (puO (by (intro w hSw; (try dsimp only at hSw); go_simp))) ?_
  simp only [Act.put, pA, pZ, pS]
  refine wpAnyH_done (by kernel_rfl) ?_ _
  have hr := hHeld
  clear hHeld
  go_wp2_with (first | ((with_reducible refine ld_rsz w.heap.size _ _ hr ?_ ?_ ?_); exact rfl; exact rfl) | ((with_reducible refine ld_rla w.heap.size _ _ hr ?_ ?_ ?_); exact rfl; exact rfl) | ((with_reducible refine ld_rp w.heap.size _ hr ?_ ?_ ?_); exact rfl; exact rfl) | ((with_reducible refine st_rp (w.heap.size + 1) _ zeroRg hq ?_ ?_ ?_); exact rfl; exact rfl; intro W hnew ho; replace hr := hr.only ho (by omega); replace hM := hM.only ho (hF.at 1 (by omega)); replace hA := hA.onlyR ho (by omega); replace hW := hW.only ho (by omega) (by omega); replace hS := (show w.heap.size + 2 ≤ W.heap.size by rw [ho.size]; exact hS); replace hB := (show B ≤ W.heap.size by rw [ho.size]; exact hB); replace hq := hnew; clear hnew ho))
  refine bodyPost_ret (results_cell_uuu results79 _ _ (w.heap.size + 1) _ _ _ rfl hq underlying34 rfl size_rp) rfl ?_
  exact ⟨rfl, _, hM, hW⟩
def nextV (p : Nat) (f : Nat → Nat) (r : Rg) : Rg × Nat × Bool × Nat :=
  if chkR r = true then
    (if plB p (avC r) 2 = true then
      (if ahN r (numF f (plM (avC r)) 2) = 0 then (zeroRg, 0, false, 0)
       else if plB p (avH r) 2 = true then
         (if (ahN r (numF f (plM (avC r)) 2) : Int) ≤ r.sz ∧ (numF f (plM (avH r)) 2 : Int) < r.sz then (takenR r, numF f (plM (avH r)) 2, true, 0) else (zeroRg, 0, false, 22))
       else (zeroRg, 0, false, 22))
     else (zeroRg, 0, false, 22))
  else (zeroRg, 0, false, 1)
theorem rnext_any (r : Rg) (hr0 : r.Ok) {w : World} {B b p c : Nat} {f : Nat → Nat} {O : Nat → Prop} (h : RamB w B b p f c O) (hA : AreasAt w) (hG : 2 < B) :
    Calls prog 79 #[.agg r.cells, .pointer (some ⟨b, 0, none⟩)] w fun e w' => e = .returned (.tuple #[.agg (nextV p f r).1.cells, .int .i64 ((nextV p f r).2.1 : Nat), .bool (nextV p f r).2.2.1, errR (nextV p f r).2.2.2]) ∧ ∃ O', RamB w' B b p f c O' ∧ Went B O O' w w' := by
  unfold nextV
  by_cases hc : chkR r = true
  · rw [if_pos hc]
    by_cases h0 : plB p (avC r) 2 = true
    · rw [if_pos h0]
      by_cases h1 : ahN r (numF f (plM (avC r)) 2) = 0
      · rw [if_pos h1]; exact next_none r hr0 hc h hA hG h0 h1
      rw [if_neg h1]
      by_cases h3 : plB p (avH r) 2 = true
      · rw [if_pos h3]
        by_cases h2 : (ahN r (numF f (plM (avC r)) 2) : Int) ≤ r.sz
        · by_cases h4 : (numF f (plM (avH r)) 2 : Int) < r.sz
          · rw [if_pos ⟨h2, h4⟩]; exact next_took r hr0 hc h hA hG h0 h1 h2 h3 h4
          · rw [if_neg (fun e => h4 e.2)]; exact next_odd r hr0 hc h hA hG h0 h1 h2 h3 (by omega)
        · rw [if_neg (fun e => h2 e.1)]; exact next_many r hr0 hc h hA hG h0 h1 (by omega) h3
      · rw [if_neg h3]; exact next_far r hr0 hc h hA hG h0 h1 (by simpa using h3)
    · rw [if_neg h0]; exact next_out r hr0 hc h hA hG (by simpa using h0)
  · rw [if_neg hc]
    refine (next_bad r hr0 (by simpa using hc) b w).mono ?_
    rintro e w' ⟨rfl, hb⟩
    exact ⟨rfl, O, h.bl hb, Went.of hb h.base⟩
end Go.Proofs.YtbggkoahofnnjaaGreatDoor
namespace Go.Proofs.YtbggkoahofnnjaaGreatDoor
open Go.RowKit
set_option maxHeartbeats 2000000
def laidW (g : Nat → Nat → Nat) : Nat → (Nat → Nat)
  | 0 => fun _ => 0
  | k + 1 => wroteF (laidW g k) (atOf (g k 0)) (numB (g k 1) 4)
theorem results_tmp_cellB {P : Program} {fn : Func} {p u : Tmp} {ty : TypeId} (h : fn.results = #[.tmp u, .cell p ty]) (tmps : Array Value) (w : World) (g : Nat) (t : TypeId) (cs : Array Value) (d : TypeDesc)
    (hp : tmps.getD p undef = .pointer (some ⟨g, 0, none⟩)) (hg : RowAt w g cs t) (hu : P.underlying ty = some d) (hd : d.isRow = true) (hi : (P.info? ty).map (·.size) = some cs.size) :
    (results fn tmps).run P w = .ok (.tuple #[tmps.getD u undef, .agg cs]) w := by
  have e : tmps[p]?.getD undef = .pointer (some ⟨g, 0, none⟩) := by simpa using hp
  have l := run_loadVar_row w g t ty cs (0, 0) d hg hu (by cases d <;> first | rfl | cases hd) hi
  simp [results, h, e, asAddr, l]
theorem rboth_any (la : Option Addr) (len cap : Nat) (g : Nat → Nat → Nat) (w : World) (hl : PairsAt w w.heap.size la len g) (hlc : len ≤ cap) (hcm : cap ≤ 9223372036854775807) :
    Calls prog 16 #[.slice la len cap] w fun e w' => ∃ b f O r, f = laidW g (min len 80) ∧ e = .returned (.tuple #[.pointer (some ⟨b, 0, none⟩), .agg (r.v 8192 2)]) ∧ RamB w' (w.heap.size + 1) b 2 f 80 O ∧ RefB w' (w.heap.size + 1) 8192 2 f r O ∧ Below w.heap.size w w' := by
  obtain ⟨B, hB⟩ : ∃ B, w.heap.size = B := ⟨_, rfl⟩
  rw [hB] at hl ⊢
  have HL := hide hl
  have HN : Hid (∀ W, Calls prog 33 #[.int .i64 2] W fun e w' => ∃ b O, e = .returned (.tuple #[.pointer (some ⟨b, 0, none⟩), .nilIface]) ∧ RamB w' W.heap.size b 2 (fun _ => 0) 0 O ∧ Below W.heap.size W w') := hide (fun W => new_b 2 (by decide) (by decide) W)
  have HRN : Hid (∀ W, Calls prog 34 #[.int .i64 2] W fun e w' => (∃ r : RP, e = .returned (.tuple #[.agg (r.v 8192 2), .int .i64 0]) ∧ RefAt w' 8192 2 (fun _ => 0) r ∧ ∀ x, r.owns x → W.heap.size ≤ x) ∧ Below W.heap.size W w') := hide (fun W => rnew_ok 8192 2 (by decide) (by decide) rfl W)
  clear hl
  go_enter func16, ntmps16
  go_wp2_with (first | ((with_reducible refine al_Rz B ?_ ?_); exact hB; intro W hq hb hz) | (go_at_call 33; (with_reducible refine (HN.out _).mono ?_); rintro e W1 ⟨b, O, rfl, hM, hbc⟩; rw [hz.out] at hM; replace hq := hq.bl hbc; replace hb := hb.trans (hbc.mono (by have := hz.out; omega)); clear hbc) | (go_at_call 34; (with_reducible refine (HRN.out _).mono ?_); rintro e W2 ⟨⟨r, rfl, hR0, hR1⟩, hbc⟩; have hlo : B + 1 ≤ W1.heap.size := hM.base; have hR : RefB W2 (B + 1) 8192 2 (fun _ => 0) r O := ⟨hR0, fun x hx => Nat.le_trans hlo (hR1 x hx), fun x hx e => absurd (hM.lt x e) (by have := hR1 x hx; omega)⟩; replace hM := hM.bl hbc; replace hq := hq.bl hbc; replace hb := hb.trans (hbc.mono (by omega)); obtain ⟨NX, hNX0⟩ : ∃ n, W2.heap.size = n := ⟨_, rfl⟩; have hNX := hide hNX0; have hNB : B + 1 ≤ NX := hNX0 ▸ hM.base; have hnx : ¬ O NX := (fun e => absurd (hM.lt _ e) (by omega)); have hrx : ¬ r.owns NX := (fun e => absurd (hR.ref.lt e) (by omega)); clear hNX0 hbc hR0 hR1) | ((with_reducible refine al_Rz NX ?_ ?_); exact hNX.out; intro W hx hb' hz2; have hbc : Below W2.heap.size W2 W := (by rw [hNX.out]; exact hb'); replace hb := hb.trans (hb'.mono (by omega)); replace hM := hM.bl hbc; replace hR := hR.bl hbc; replace hq := hq.bl hbc; clear hb' hbc) | ((with_reducible refine st_R NX _ r 8192 2 hx ?_ ?_ ?_ ?_); exact rfl; exact rfl; exact rfl; intro W hnew hoo; replace hM := hM.only hoo hnx; replace hR := hR.only hoo hrx; replace hq := hq.only hoo (by omega); replace hb := hoo.bel _ _ (by omega) hb; replace hx := hnew; have hsz : NX < W.heap.size := hx.lt; clear hnew hoo))
  clear hz HN HRN hNX
  go_loopw [8] (fun iv wr => ∃ (k : Nat) (f : Nat → Nat) (O : Nat → Prop) (r : RP), k ≤ 80 ∧ k ≤ len ∧ iv = .int .i64 (k : Nat) ∧ f = laidW g k ∧ RamB wr (B + 1) b 2 f k O ∧ RefB wr (B + 1) 8192 2 f r O ∧ RowAt wr NX (r.v 8192 2) 63 ∧ RowAt wr B zR 63 ∧ ¬ O NX ∧ ¬ r.owns NX ∧ Below B w wr) (fun iv _ => 80 - (intOf iv).toNat)
  case atStart => exact ⟨0, _, O, r, Nat.zero_le _, Nat.zero_le _, rfl, rfl, hM, hR, hx, hq, hnx, hrx, hb⟩
  case round =>
    clear hM hR hx hq hnx hrx hb
    obtain ⟨k, f, O, r, hk, hkl, rfl, hfe, hM, hR, hx, hq, hnx, hrx, hb⟩ := hrel
    have HFE := hide hfe
    clear hfe
    by_cases hlt : k < len ∧ k < 80
    · obtain ⟨hlt1, hlt2⟩ := hlt
      obtain ⟨lb, lo, rfl, hlb, hc0, hc1⟩ := HL.out.lies k hlt1
      obtain ⟨hs0, hs1⟩ := HL.out.small k hlt1
      have ha := atOf_in (g k 0)
      obtain ⟨av, hav⟩ : ∃ a, atOf (g k 0) = a := ⟨_, rfl⟩
      obtain ⟨vv, hvv⟩ : ∃ a, g k 1 = a := ⟨_, rfl⟩
      obtain ⟨xv, hxv⟩ : ∃ a, g k 0 = a := ⟨_, rfl⟩
      rw [hav] at ha
      rw [hvv] at hc1 hs1
      rw [hxv] at hc0 hs0 hav
      have HLW : Hid (wroteF f av (numB vv 4) = laidW g (k + 1)) := hide (by show _ = wroteF (laidW g k) (atOf (g k 0)) (numB (g k 1) 4); rw [← HFE.out, hxv, hav, hvv])
      have eav : (xv : Int) % 8192 / 4 * 4 = (av : Int) := by rw [← hav]; unfold atOf; omega
      have HS : Hid (∀ W O1, RamB W (B + 1) b 2 f k O1 → Calls prog 35 #[.pointer (some ⟨b, 0, none⟩), .int .u32 (av : Nat), .int .i64 4, .int .u32 (vv : Nat)] W fun e w' => e = .returned .nilIface ∧ ∃ O', RamB w' (B + 1) b 2 (wroteF f av (numB vv 4)) (k + 1) O' ∧ Went (B + 1) O1 O' W w') := hide (fun W O1 hM => store_b hM av 4 (by omega) (by decide) ha.1 (by omega) vv hs1 (by omega))
      have HRS : Hid (∀ W, RefAt W 8192 2 f r → Calls prog 36 #[.agg (r.v 8192 2), .int .u32 (av : Nat), .int .i64 4, .int .u32 (vv : Nat)] W fun e w' => (∃ r' : RP, e = .returned (.tuple #[.agg (r'.v 8192 2), .int .i64 0]) ∧ RefAt w' 8192 2 (wroteF f av (numB vv 4)) r' ∧ ∀ x, r'.owns x → W.heap.size ≤ x) ∧ Below W.heap.size W w') := hide (fun W hR => rstore_ok hR av 4 (by omega) (by decide) ha.1 (by omega) vv hs1)
      have lt1 : (k : Int) < (len : Int) := by omega
      have lt2 : (k : Int) < 80 := by omega
      have hcw0 : wr.cell? ⟨lb, lo + k * 2, none⟩ = some (.int .u32 (xv : Nat)) := (hb.cell (p := ⟨lb, lo + k * 2, none⟩) hlb).trans hc0
      have hcw1 : wr.cell? ⟨lb, lo + k * 2 + 1, none⟩ = some (.int .u32 (vv : Nat)) := (hb.cell (p := ⟨lb, lo + k * 2 + 1, none⟩) hlb).trans hc1
      have e5 : Hid ((xv : Int).tmod 8192 = (xv : Int) % 8192) := hide (Int.tmod_eq_emod_of_nonneg (by omega))
      have e6 : Hid (IntKind.u32.wrap (((xv : Int) % 8192).tdiv 4) = (xv : Int) % 8192 / 4) := hide (by rw [IntKind.wrap_u32, Int.tdiv_eq_ediv_of_nonneg (by omega)]; omega)
      have e7 : Hid (IntKind.u32.wrap (av : Int) = (av : Int)) := hide (by rw [IntKind.wrap_u32]; omega)
      clear hav ha
      go_wp2_with (fail)
      refine wp_region_held_drew (S := (fun V => Below B w V)) (by kernel_rfl) ?_ (fun hHeld => ?_)
      · exact hb.drew
      replace hM := hM.dr
      replace hR := hR.dr
      replace hx := hx.dr
      replace hq := hq.dr
      generalize World.drew _ = V at hHeld hM hR hx hq ⊢
      clear hb
      refine tkO 0 (.pointer (some ⟨b, 0, none⟩)) (by simp only [gT, gZ]; rfl) (puO (by (intro w hSw; (try dsimp only at hSw); go_simp))) ?_
      simp only [Act.put, pA, pZ, pS]
      refine tkO 1 (.slice (some ⟨lb, lo, none⟩) len cap) (by simp only [gT, gZ, gS]; rfl) (puO (by (intro w hSw; (try dsimp only at hSw); go_simp))) ?_
      simp only [Act.put, pA, pZ, pS]
      refine tkO 2 (.int .i64 (k : Nat)) (by simp only [gT, gZ, gS]; rfl) (puO (by (intro w hSw; (try dsimp only at hSw); go_simp))) ?_
      simp only [Act.put, pA, pZ, pS]
      refine tkO 3 (.pointer (some ⟨lb, lo + k * 2, none⟩)) (by simp only [gT, gZ, gS]; rfl) (puO (by (intro w hSw; (try dsimp only at hSw); go_simp))) ?_
      simp only [Act.put, pA, pZ, pS]
      refine tkO 4 (.pointer (some ⟨lb, lo + k * 2, none⟩)) (by simp only [gT, gZ, gS]; rfl) (puO (by (intro w hSw; (try dsimp only at hSw); go_simp))) ?_
      simp only [Act.put, pA, pZ, pS]
      refine tkO 5 (.int .u32 (xv : Nat)) (by simp only [gT, gZ, gS]; rfl) (y_cell lb (lo + k * 2) _ (fun V hV => (hV.cell (p := ⟨lb, lo + k * 2, none⟩) hlb).trans hc0) _ underlying22 rfl rfl) ?_
      simp only [Act.put, pA, pZ, pS]
      refine tkO 6 (.int .u32 ((xv : Int) % 8192)) (by simp only [gT, gZ, gS]; rfl) (puO (by (intro w hSw; (try dsimp only at hSw); go_simp ; exact e5.out))) ?_
      simp only [Act.put, pA, pZ, pS]
      refine tkO 7 (.int .u32 ((xv : Int) % 8192 / 4)) (by simp only [gT, gZ, gS]; rfl) (puO (by (intro w hSw; (try dsimp only at hSw); go_simp ; exact e6.out))) ?_
      simp only [Act.put, pA, pZ, pS]
      refine tkO 8 (.int .u32 (av : Nat)) (by simp only [gT, gZ, gS]; rfl) (puO (by (intro w hSw; (try dsimp only at hSw); go_simp ; exact e7.out))) ?_
      simp only [Act.put, pA, pZ, pS]
      refine tkO 9 (.slice (some ⟨lb, lo, none⟩) len cap) (by simp only [gT, gZ, gS]; rfl) (puO (by (intro w hSw; (try dsimp only at hSw); go_simp))) ?_
      simp only [Act.put, pA, pZ, pS]
      refine tkO 10 (.int .i64 (k : Nat)) (by simp only [gT, gZ, gS]; rfl) (puO (by (intro w hSw; (try dsimp only at hSw); go_simp))) ?_
      simp only [Act.put, pA, pZ, pS]
      refine tkO 11 (.pointer (some ⟨lb, lo + k * 2, none⟩)) (by simp only [gT, gZ, gS]; rfl) (puO (by (intro w hSw; (try dsimp only at hSw); go_simp))) ?_
      simp only [Act.put, pA, pZ, pS]
      refine tkO 12 (.pointer (some ⟨lb, lo + k * 2 + 1, none⟩)) (by simp only [gT, gZ, gS]; rfl) (puO (by (intro w hSw; (try dsimp only at hSw); go_simp))) ?_
      simp only [Act.put, pA, pZ, pS]
      refine tkO 13 (.int .u32 (vv : Nat)) (by simp only [gT, gZ, gS]; rfl) (y_cell lb (lo + k * 2 + 1) _ (fun V hV => (hV.cell (p := ⟨lb, lo + k * 2 + 1, none⟩) hlb).trans hc1) _ underlying22 rfl rfl) ?_
      simp only [Act.put, pA, pZ, pS]
      refine skO 14 (by simp only [gT, gZ, gS]; rfl) (fun K hK => ?_)
      go_simp
      (with_reducible refine (HS.out _ _ hM).mono ?_)
      rintro e V ⟨rfl, O2, hM2, hW2⟩
      have hH2 := hide (hHeld.trans (hW2.below.mono (by omega)))
      have hnx2 := hW2.no hx.lt hnx
      replace hR := hR.went hW2
      replace hx := hW2.row hx hnx
      replace hq := hW2.row hq (fun e => absurd (hM.low _ e) (by omega))
      replace hM := hM2
      clear hnx
      have hnx := hnx2
      clear hHeld hW2 hM2 hnx2
      go_simp
      refine hK.out _ _ ?_ (fun hHeld => ?_)
      · exact hH2.out
      clear hK K
      clear hH2
      refine wpAnyH_done (by kernel_rfl) ?_ _
      have hb := hHeld
      clear hHeld
      go_wp2_with (fail)
      refine wp_region_held_drew (S := (fun V => Below B w V)) (by kernel_rfl) ?_ (fun hHeld => ?_)
      · exact hb.drew
      replace hM := hM.dr
      replace hR := hR.dr
      replace hx := hx.dr
      replace hq := hq.dr
      generalize World.drew _ = V at hHeld hM hR hx hq ⊢
      clear hb
      refine tkO 1 (.slice (some ⟨lb, lo, none⟩) len cap) (by simp only [gT, gZ, gS]; rfl) (puO (by (intro w hSw; (try dsimp only at hSw); go_simp))) ?_
      simp only [Act.put, pA, pZ, pS]
      refine tkO 2 (.int .i64 (k : Nat)) (by simp only [gT, gZ, gS]; rfl) (puO (by (intro w hSw; (try dsimp only at hSw); go_simp))) ?_
      simp only [Act.put, pA, pZ, pS]
      refine tkO 3 (.pointer (some ⟨lb, lo + k * 2, none⟩)) (by simp only [gT, gZ, gS]; rfl) (puO (by (intro w hSw; (try dsimp only at hSw); go_simp))) ?_
      simp only [Act.put, pA, pZ, pS]
      refine tkO 4 (.pointer (some ⟨lb, lo + k * 2, none⟩)) (by simp only [gT, gZ, gS]; rfl) (puO (by (intro w hSw; (try dsimp only at hSw); go_simp))) ?_
      simp only [Act.put, pA, pZ, pS]
      refine tkO 5 (.int .u32 (xv : Nat)) (by simp only [gT, gZ, gS]; rfl) (y_cell lb (lo + k * 2) _ (fun V hV => (hV.cell (p := ⟨lb, lo + k * 2, none⟩) hlb).trans hc0) _ underlying22 rfl rfl) ?_
      simp only [Act.put, pA, pZ, pS]
      refine tkO 6 (.int .u32 ((xv : Int) % 8192)) (by simp only [gT, gZ, gS]; rfl) (puO (by (intro w hSw; (try dsimp only at hSw); go_simp ; exact e5.out))) ?_
      simp only [Act.put, pA, pZ, pS]
      refine tkO 7 (.int .u32 ((xv : Int) % 8192 / 4)) (by simp only [gT, gZ, gS]; rfl) (puO (by (intro w hSw; (try dsimp only at hSw); go_simp ; exact e6.out))) ?_
      simp only [Act.put, pA, pZ, pS]
      refine tkO 8 (.int .u32 (av : Nat)) (by simp only [gT, gZ, gS]; rfl) (puO (by (intro w hSw; (try dsimp only at hSw); go_simp ; exact e7.out))) ?_
      simp only [Act.put, pA, pZ, pS]
      refine tkO 9 (.slice (some ⟨lb, lo, none⟩) len cap) (by simp only [gT, gZ, gS]; rfl) (puO (by (intro w hSw; (try dsimp only at hSw); go_simp))) ?_
      simp only [Act.put, pA, pZ, pS]
      refine tkO 10 (.int .i64 (k : Nat)) (by simp only [gT, gZ, gS]; rfl) (puO (by (intro w hSw; (try dsimp only at hSw); go_simp))) ?_
      simp only [Act.put, pA, pZ, pS]
      refine tkO 11 (.pointer (some ⟨lb, lo + k * 2, none⟩)) (by simp only [gT, gZ, gS]; rfl) (puO (by (intro w hSw; (try dsimp only at hSw); go_simp))) ?_
      simp only [Act.put, pA, pZ, pS]
      refine tkO 12 (.pointer (some ⟨lb, lo + k * 2 + 1, none⟩)) (by simp only [gT, gZ, gS]; rfl) (puO (by (intro w hSw; (try dsimp only at hSw); go_simp))) ?_
      simp only [Act.put, pA, pZ, pS]
      refine tkO 13 (.int .u32 (vv : Nat)) (by simp only [gT, gZ, gS]; rfl) (y_cell lb (lo + k * 2 + 1) _ (fun V hV => (hV.cell (p := ⟨lb, lo + k * 2 + 1, none⟩) hlb).trans hc1) _ underlying22 rfl rfl) ?_
      simp only [Act.put, pA, pZ, pS]
      refine skO 0 (by simp only [gT, gZ]; rfl) (fun K hK => ?_)
      rw [if_pos (by rfl)]
      (with_reducible refine s_ldR NX r 8192 2 hx ?_ ?_)
      · exact rfl
      have hH2 := hide hHeld
      clear hHeld
      refine hK.out _ _ ?_ (fun hHeld => ?_)
      · exact hH2.out
      clear hK K
      clear hH2
      refine skO 14 (by simp only [gT, gZ, gS]; rfl) (fun K hK => ?_)
      go_simp
      (with_reducible refine (HRS.out _ hR.ref).mono ?_)
      rintro e V2 ⟨⟨r2, rfl, hR2, hn2⟩, hbc⟩
      have hH2 := hide (hHeld.trans (hbc.mono (by have := hHeld.size; omega)))
      have hrx2 : ¬ r2.owns NX := fun e => absurd (hn2 _ e) (by have := hx.lt; omega)
      replace hR := hR.next hM hR2 (fun x e => .inr (hn2 x e))
      replace hM := hM.bl hbc
      replace hx := hx.bl hbc
      replace hq := hq.bl hbc
      clear hHeld hbc hR2 hn2
      go_simp
      refine hK.out _ _ ?_ (fun hHeld => ?_)
      · exact hH2.out
      clear hK K
      clear hH2
      refine tkO 15 (.tuple #[.agg (r2.v 8192 2), .int .i64 0]) (by simp only [gT, gZ, gS]; rfl) (puO (by (intro w hSw; (try dsimp only at hSw); go_simp))) ?_
      simp only [Act.put, pA, pZ, pS]
      refine tkO 16 (.agg (r2.v 8192 2)) (by simp only [gT, gZ, gS]; rfl) (puO (by (intro w hSw; (try dsimp only at hSw); go_simp))) ?_
      simp only [Act.put, pA, pZ, pS]
      refine tkO 17 (.int .i64 0) (by simp only [gT, gZ, gS]; rfl) (puO (by (intro w hSw; (try dsimp only at hSw); go_simp))) ?_
      simp only [Act.put, pA, pZ, pS]
      refine skO 18 (by simp only [gT, gZ, gS]; rfl) (fun K hK => ?_)
      rw [if_pos (by rfl)]
      (with_reducible refine s_stR NX _ r2 8192 2 hx ?_ ?_ ?_ ?_)
      · exact rfl
      · exact rfl
      · exact rfl
      intro V3 hnew hoo
      have hH2 := hide (hoo.bel _ _ (by omega) hHeld)
      replace hR := hR.only hoo hrx2
      replace hM := hM.only hoo hnx
      replace hq := hq.only hoo (by omega)
      replace hx := hnew
      clear hHeld hnew hoo
      refine hK.out _ _ ?_ (fun hHeld => ?_)
      · exact hH2.out
      clear hK K
      clear hH2
      refine wpAnyH_done (by kernel_rfl) ?_ _
      have hb := hHeld
      clear hHeld
      go_wp2_with (fail)
      go_roundw
      case rel => exact ⟨k + 1, _, _, r2, by omega, by omega, by go_num, HLW.out, hM, hR, hx, hq, hnx, hrx2, hb⟩
      case measure => simp [intOf]; omega
    · have hcase : (¬ k < len) ∨ (k < len ∧ k = 80) := by omega
      have hM9 := hM.more (show k ≤ 80 from hk)
      clear hM
      have HFM : Hid (f = laidW g (min len 80)) := hide (by rw [HFE.out]; congr 1; omega)
      rcases hcase with hnl | ⟨hnl, hk40⟩
      · have t1 : decide ((k : Int) < (len : Int)) = false := by simp; omega
        have t1n : decide (k < len) = false := by simp; omega
        go_wp2_with (fail)
        refine wp_region_held_drew (S := (fun V => RowAt V NX (r.v 8192 2) 63 ∧ RamB V (B + 1) b 2 f 80 O ∧ RefB V (B + 1) 8192 2 f r O ∧ Below B w V)) (by kernel_rfl) ?_ (fun hHeld => ?_)
        · exact ⟨hx.dr, hM9.dr, hR.dr, hb.drew⟩
        replace hq := hq.dr
        generalize World.drew _ = V at hHeld hq ⊢
        clear hx hM9 hR hb
        refine tkO 0 (.pointer (some ⟨b, 0, none⟩)) (by simp only [gT, gZ]; rfl) (puO (by (intro w hSw; (try dsimp only at hSw); go_simp))) ?_
        simp only [Act.put, pA, pZ, pS]
        refine tkO 1 (.agg (r.v 8192 2)) (by simp only [gT, gZ, gS]; rfl) (y_Rw NX r 8192 2 (fun V hV => hV.1) rfl) ?_
        simp only [Act.put, pA, pZ, pS]
        refine tkO 2 (.pointer (some ⟨b, 0, none⟩)) (by simp only [gT, gZ, gS]; rfl) (puO (by (intro w hSw; (try dsimp only at hSw); go_simp))) ?_
        simp only [Act.put, pA, pZ, pS]
        refine skO 3 (by simp only [gT, gZ, gS]; rfl) (fun K hK => ?_)
        rw [if_pos (by rfl)]
        (with_reducible refine s_stR B _ r 8192 2 hq ?_ ?_ ?_ ?_)
        · exact rfl
        · exact rfl
        · exact rfl
        intro V3 hnew hoo
        have hH2 := hide (And.intro (hHeld.1.only hoo (by omega)) (And.intro (hHeld.2.1.only hoo (fun e => absurd (hHeld.2.1.low _ e) (by omega))) (And.intro (hHeld.2.2.1.only hoo (fun e => absurd (hHeld.2.2.1.low _ e) (by omega))) (hoo.bel _ _ (Nat.le_refl _) hHeld.2.2.2))))
        replace hq := hnew
        clear hHeld hnew hoo
        refine hK.out _ _ ?_ (fun hHeld => ?_)
        · exact hH2.out
        clear hK K
        clear hH2
        refine wpAnyH_done (by kernel_rfl) ?_ _
        go_wp2_with (fail)
        refine bodyPost_ret (results_tmp_cellB results16 _ _ B _ _ _ rfl hq underlying63 rfl size_R) rfl ?_
        exact ⟨b, f, O, r, HFM.out, rfl, hHeld.2.1, hHeld.2.2.1, hHeld.2.2.2⟩
      · subst hk40
        have t1 : ((80 : Nat) : Int) < (len : Int) := by omega
        go_wp2_with (fail)
        refine wp_region_held_drew (S := (fun V => RowAt V NX (r.v 8192 2) 63 ∧ RamB V (B + 1) b 2 f 80 O ∧ RefB V (B + 1) 8192 2 f r O ∧ Below B w V)) (by kernel_rfl) ?_ (fun hHeld => ?_)
        · exact ⟨hx.dr, hM9.dr, hR.dr, hb.drew⟩
        replace hq := hq.dr
        generalize World.drew _ = V at hHeld hq ⊢
        clear hx hM9 hR hb
        refine tkO 0 (.pointer (some ⟨b, 0, none⟩)) (by simp only [gT, gZ]; rfl) (puO (by (intro w hSw; (try dsimp only at hSw); go_simp))) ?_
        simp only [Act.put, pA, pZ, pS]
        refine tkO 1 (.agg (r.v 8192 2)) (by simp only [gT, gZ, gS]; rfl) (y_Rw NX r 8192 2 (fun V hV => hV.1) rfl) ?_
        simp only [Act.put, pA, pZ, pS]
        refine tkO 2 (.pointer (some ⟨b, 0, none⟩)) (by simp only [gT, gZ, gS]; rfl) (puO (by (intro w hSw; (try dsimp only at hSw); go_simp))) ?_
        simp only [Act.put, pA, pZ, pS]
        refine skO 3 (by simp only [gT, gZ, gS]; rfl) (fun K hK => ?_)
        rw [if_pos (by rfl)]
        (with_reducible refine s_stR B _ r 8192 2 hq ?_ ?_ ?_ ?_)
        · exact rfl
        · exact rfl
        · exact rfl
        intro V3 hnew hoo
        have hH2 := hide (And.intro (hHeld.1.only hoo (by omega)) (And.intro (hHeld.2.1.only hoo (fun e => absurd (hHeld.2.1.low _ e) (by omega))) (And.intro (hHeld.2.2.1.only hoo (fun e => absurd (hHeld.2.2.1.low _ e) (by omega))) (hoo.bel _ _ (Nat.le_refl _) hHeld.2.2.2))))
        replace hq := hnew
        clear hHeld hnew hoo
        refine hK.out _ _ ?_ (fun hHeld => ?_)
        · exact hH2.out
        clear hK K
        clear hH2
        refine wpAnyH_done (by kernel_rfl) ?_ _
        go_wp2_with (fail)
        refine bodyPost_ret (results_tmp_cellB results16 _ _ B _ _ _ rfl hq underlying63 rfl size_R) rfl ?_
        exact ⟨b, f, O, r, HFM.out, rfl, hHeld.2.1, hHeld.2.2.1, hHeld.2.2.2⟩
end Go.Proofs.YtbggkoahofnnjaaGreatDoor
