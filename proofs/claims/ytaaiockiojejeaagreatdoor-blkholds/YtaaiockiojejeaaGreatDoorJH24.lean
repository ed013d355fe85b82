/-
  What ring's Next answers of any ring, in any memory.
-/
import Derived.Test.YtaaiockiojejeaaGreatDoorJH11
import Derived.Test.YtaaiockiojejeaaGreatDoorJH18
namespace Go.Proofs.YtaaiockiojejeaaGreatDoor
open Go.RowKit
set_option linter.unusedVariables false
set_option linter.unusedSimpArgs false

attribute [local go_sem] Rg.at0 Rg.at1 Rg.at2 Rg.at3 Rg.at4 Rg.at5
set_option maxHeartbeats 1000000 in
theorem next_bad (r : Rg) (hr0 : r.Ok) (hc : chkR r = false) (b : Nat) (w : World) : Calls Tryz.prog 31 #[.agg r.cells, .pointer (some ⟨b, 0, none⟩)] w fun e w' => e = .returned (.tuple #[.agg zeroRg.cells, .int .i64 0, .bool false, .iface 129 (.int .i64 1)]) ∧ Below w.heap.size w w' := by
  have HC : Hid (∀ W, Calls Tryz.prog 65 #[.agg r.cells, .pointer (some ⟨b, 0, none⟩)] W fun e w' => e = .returned (.iface 129 (.int .i64 1)) ∧ Below W.heap.size W w') := hide (fun W => by have := rcheckw_any r hr0 b W; rw [hc] at this; exact this)
  clear hc hr0
  go_enter Tryz.func31, Tryz.ntmps31
  go_wp2_with (first | ((with_reducible refine bx_rp w.heap.size r ?_ ?_ ?_); exact rfl; exact rfl; intro W hr hb hz) | ((with_reducible refine al_rp (w.heap.size + 1) ?_ ?_); exact hz.out; intro W hq hb' hz'; replace hr := hr.bl (hz.out ▸ hb'); replace hb := hb.trans (hb'.mono (by omega)); replace hz := hz') | ((with_reducible refine ld_rp w.heap.size _ hr ?_ ?_ ?_); exact rfl; exact rfl) | (go_at_call 65; (with_reducible refine (HC.out _).mono ?_); rintro e W ⟨rfl, hbc⟩; replace hr := hr.bl hbc; replace hq := hq.bl hbc; replace hb := below_bl rfl hb hbc) | ((with_reducible refine st_rp (w.heap.size + 1) _ zeroRg hq ?_ ?_ ?_); exact rfl; exact rfl; intro W hnew ho; replace hr := hr.only ho (by omega); replace hq := hnew; replace hb := ho.bel _ _ (by omega) hb))
  refine bodyPost_ret (results_cell_uuu Tryz.results31 _ _ (w.heap.size + 1) _ _ _ rfl hq Tryz.underlying45 rfl size_rp) rfl ?_
  exact ⟨rfl, hb⟩
set_option maxHeartbeats 1000000 in
theorem next_out (r : Rg) (hr0 : r.Ok) (hc : chkR r = true) {w : World} {B b p c : Nat} {f : Nat → Nat} {O : Nat → Prop} (h : RamB w B b p f c O) (hA : AreasAt w) (hG : 2 < B)  (h0 : plB p (avC r) 2 = false) : Calls Tryz.prog 31 #[.agg r.cells, .pointer (some ⟨b, 0, none⟩)] w fun e w' => e = .returned (.tuple #[.agg zeroRg.cells, .int .i64 0, .bool false, .iface 129 (.int .i64 22)]) ∧ ∃ O', RamB w' B b p f c O' ∧ Went B O O' w w' := by
  have hB0 := h.base
  have hGw : 2 < w.heap.size := Nat.lt_of_lt_of_le hG hB0
  have hA0 := hA
  clear hA
  obtain ⟨k, hk, hk0, hk1⟩ := chkR_sz hc
  obtain ⟨al1, al2, al3⟩ := chkR_al hc
  have HC : Hid (∀ W, Calls Tryz.prog 65 #[.agg r.cells, .pointer (some ⟨b, 0, none⟩)] W fun e w' => e = .returned .nilIface ∧ Below W.heap.size W w') := hide (fun W => by have := rcheckw_any r hr0 b W; rw [hc] at this; exact this)
  have hla := hr0.la
  have hav := hr0.av
  have HL1 : Hid (∀ W O1, RamB W B b p f c O1 → AreasAt W → Calls Tryz.prog 66 #[.pointer (some ⟨b, 0, none⟩), .int .u32 (avC r : Nat), .int .i64 2] W fun e w' => e = .returned (.tuple #[.int .u32 0, .iface 129 (.int .i64 22)]) ∧ ∃ O', RamB w' B b p f c O' ∧ Went B O1 O' W w') := hide (fun W O1 hM hA => rload_no hM hA hG (avC r) 2 (by unfold avC t32; omega) (by decide) (by unfold avC t32; omega) h0)
  have e1 : ((r.av : Int) + 2) % 4294967296 = ((avC r : Nat) : Int) := by unfold avC t32; omega
  generalize avC r = aC at *
  clear hk hr0 hc al1 al2 al3 h0
  go_enter Tryz.func31, Tryz.ntmps31
  go_wp2_with (first | ((with_reducible refine bx_rp w.heap.size r ?_ ?_ ?_); exact rfl; exact rfl; intro W hr hb hz) | ((with_reducible refine al_rp (w.heap.size + 1) ?_ ?_); exact hz.out; intro W hq hb' hz'; replace hr := hr.bl (hz.out ▸ hb'); replace hb := hb.trans (hb'.mono (by omega)); replace hz := hz'; have hM := h.bl hb; have hW := Went.of (O := O) hb hB0; have hA := hA0.bl hb; have hF := h.far 2; have hS : w.heap.size + 2 ≤ W.heap.size := Nat.le_of_eq hz.out.symm; have hB : B ≤ W.heap.size := Nat.le_trans hB0 hb.size; clear hb hz hb' hz') | ((with_reducible refine ld_rp w.heap.size _ hr ?_ ?_ ?_); exact rfl; exact rfl) | (go_at_call 65; (with_reducible refine (HC.out _).mono ?_); rintro e W ⟨rfl, hbc⟩; replace hM := hM.bl hbc; replace hW := hW.bl hbc hB; replace hA := hA.bl hbc; replace hB := Nat.le_trans hB hbc.size; replace hS := Nat.le_trans hS hbc.size; replace hr := hr.bl hbc; replace hq := hq.bl hbc) | ((with_reducible refine ld_rav w.heap.size _ _ hr ?_ ?_ ?_); exact rfl; exact rfl) | ((with_reducible refine ld_rla w.heap.size _ _ hr ?_ ?_ ?_); exact rfl; exact rfl) | (go_at_call 66; (with_reducible refine (HL1.out _ _ hM hA).mono ?_); rintro e W2 ⟨rfl, O2, hM2, hW2⟩; replace hr := hW2.row hr (hF.at 0 (by omega)); replace hq := hW2.row hq (hF.at 1 (by omega)); replace hA := hA.wentR hG hW2; replace hF := hF.went hW2 hS; replace hS := Nat.le_trans hS hW2.size; replace hW := hW.trans hW2; replace hB := Nat.le_trans hB hW2.size; replace hM := hM2; clear hM2 hW2) | ((with_reducible refine st_rp (w.heap.size + 1) _ zeroRg hq ?_ ?_ ?_); exact rfl; exact rfl; intro W hnew ho; replace hr := hr.only ho (by omega); replace hM := hM.only ho (hF.at 1 (by omega)); replace hA := hA.onlyR ho (by omega); replace hW := hW.only ho (by omega) (by omega); replace hS := (show w.heap.size + 2 ≤ W.heap.size by rw [ho.size]; exact hS); replace hB := (show B ≤ W.heap.size by rw [ho.size]; exact hB); replace hq := hnew; clear hnew ho))
  refine bodyPost_ret (results_cell_uuu Tryz.results31 _ _ (w.heap.size + 1) _ _ _ rfl hq Tryz.underlying45 rfl size_rp) rfl ?_
  exact ⟨rfl, _, hM, hW⟩
set_option maxHeartbeats 2000000 in
theorem next_far (r : Rg) (hr0 : r.Ok) (hc : chkR r = true) {w : World} {B b p c : Nat} {f : Nat → Nat} {O : Nat → Prop} (h : RamB w B b p f c O) (hA : AreasAt w) (hG : 2 < B) (h0 : plB p (avC r) 2 = true) (h1 : ahN r (numF f (plM (avC r)) 2) ≠ 0) (h3 : plB p (avH r) 2 = false) :
    Calls Tryz.prog 31 #[.agg r.cells, .pointer (some ⟨b, 0, none⟩)] w fun e w' => e = .returned (.tuple #[.agg zeroRg.cells, .int .i64 0, .bool false, .iface 129 (.int .i64 22)]) ∧ ∃ O', RamB w' B b p f c O' ∧ Went B O O' w w' := by
  have hB0 := h.base
  have hGw : 2 < w.heap.size := Nat.lt_of_lt_of_le hG hB0
  have hA0 := hA
  clear hA
  obtain ⟨k, hk, hk0, hk1⟩ := chkR_sz hc
  obtain ⟨al1, al2, al3⟩ := chkR_al hc
  have HC : Hid (∀ W, Calls Tryz.prog 65 #[.agg r.cells, .pointer (some ⟨b, 0, none⟩)] W fun e w' => e = .returned .nilIface ∧ Below W.heap.size W w') := hide (fun W => by have := rcheckw_any r hr0 b W; rw [hc] at this; exact this)
  have hla := hr0.la
  have hav := hr0.av
  have HL1 : Hid (∀ W O1, RamB W B b p f c O1 → AreasAt W → Calls Tryz.prog 66 #[.pointer (some ⟨b, 0, none⟩), .int .u32 (avC r : Nat), .int .i64 2] W fun e w' => e = .returned (.tuple #[.int .u32 (numF f (plM (avC r)) 2 : Nat), .nilIface]) ∧ ∃ O', RamB w' B b p f c O' ∧ Went B O1 O' W w') := hide (fun W O1 hM hA => rload_ok hM hA hG (avC r) 2 (by unfold avC t32; omega) (by decide) (by unfold avC t32; omega) h0)
  have hcl : numF f (plM (avC r)) 2 < 65536 := numF_lt h.small _ 2
  have e1 : ((r.av : Int) + 2) % 4294967296 = ((avC r : Nat) : Int) := by unfold avC t32; omega
  have ew : IntKind.u16.wrap (((numF f (plM (avC r)) 2 : Nat) : Int) - (r.la : Int)) = ((ahN r (numF f (plM (avC r)) 2) : Nat) : Int) := by rw [IntKind.wrap_u16]; unfold ahN; omega
  have ea : (((numF f (plM (avC r)) 2 : Nat) : Int) - (r.la : Int)) % 65536 = ((ahN r (numF f (plM (avC r)) 2) : Nat) : Int) := by unfold ahN; omega
  have HL2 : Hid (∀ W O1, RamB W B b p f c O1 → AreasAt W → Calls Tryz.prog 66 #[.pointer (some ⟨b, 0, none⟩), .int .u32 (avH r : Nat), .int .i64 2] W fun e w' => e = .returned (.tuple #[.int .u32 0, .iface 129 (.int .i64 22)]) ∧ ∃ O', RamB w' B b p f c O' ∧ Went B O1 O' W w') := hide (fun W O1 hM hA => rload_no hM hA hG (avH r) 2 (by unfold avH t32; omega) (by decide) (by unfold avH t32; omega) h3)
  have hsl := slotN_lt hc r.la
  have HS : Hid (∀ W, Calls Tryz.prog 67 #[.agg r.cells, .int .u16 (r.la : Nat)] W fun e w' => e = .returned (.int .u32 (slotN r r.la : Nat)) ∧ Below W.heap.size W w') := hide (fun W => slot_any r hc r.la hla W)
  have e2 : (((r.av : Int) + 4) % 4294967296 + (2 * ((slotN r r.la : Nat) : Int))) % 4294967296 = ((avH r : Nat) : Int) := by unfold avH t32; omega
  generalize avH r = aH at *
  generalize slotN r r.la = sl at *
  have e3 : Hid (IntKind.u32.wrap (2 * (sl : Int)) = 2 * (sl : Int)) := hide (by rw [IntKind.wrap_u32]; omega)
  have e4 : Hid (IntKind.u32.wrap ((r.av : Int) + 4) = ((r.av : Int) + 4) % 4294967296) := hide (by rw [IntKind.wrap_u32])
  have e5 : Hid (IntKind.u32.wrap (((r.av : Int) + 4) % 4294967296 + (2 * ((sl : Nat) : Int))) = (aH : Int)) := hide (by rw [IntKind.wrap_u32]; exact e2)
  generalize numF f (plM (avC r)) 2 = cnt at *
  generalize avC r = aC at *
  have hal : ahN r cnt < 65536 := Nat.mod_lt _ (by decide)
  generalize ahN r cnt = ah at *
  have t1 : ((ah : Int) == 0) = false := by simp; omega
  clear hk hr0 hc al1 al2 al3 h0 h1 h3 e2
  go_enter Tryz.func31, Tryz.ntmps31
  go_wp2_with (first | ((with_reducible refine bx_rp w.heap.size r ?_ ?_ ?_); exact rfl; exact rfl; intro W hr hb hz) | ((with_reducible refine al_rp (w.heap.size + 1) ?_ ?_); exact hz.out; intro W hq hb' hz'; replace hr := hr.bl (hz.out ▸ hb'); replace hb := hb.trans (hb'.mono (by omega)); replace hz := hz'; have hM := h.bl hb; have hW := Went.of (O := O) hb hB0; have hA := hA0.bl hb; have hF := h.far 2; have hS : w.heap.size + 2 ≤ W.heap.size := Nat.le_of_eq hz.out.symm; have hB : B ≤ W.heap.size := Nat.le_trans hB0 hb.size; clear hb hz hb' hz') | ((with_reducible refine ld_rp w.heap.size _ hr ?_ ?_ ?_); exact rfl; exact rfl) | (go_at_call 65; (with_reducible refine (HC.out _).mono ?_); rintro e W ⟨rfl, hbc⟩; replace hM := hM.bl hbc; replace hW := hW.bl hbc hB; replace hA := hA.bl hbc; replace hB := Nat.le_trans hB hbc.size; replace hS := Nat.le_trans hS hbc.size; replace hr := hr.bl hbc; replace hq := hq.bl hbc) | ((with_reducible refine ld_rav w.heap.size _ _ hr ?_ ?_ ?_); exact rfl; exact rfl) | ((with_reducible refine ld_rla w.heap.size _ _ hr ?_ ?_ ?_); exact rfl; exact rfl) | (go_at_call 66; (with_reducible refine (HL1.out _ _ hM hA).mono ?_); rintro e W2 ⟨rfl, O2, hM2, hW2⟩; replace hr := hW2.row hr (hF.at 0 (by omega)); replace hq := hW2.row hq (hF.at 1 (by omega)); replace hA := hA.wentR hG hW2; replace hF := hF.went hW2 hS; replace hS := Nat.le_trans hS hW2.size; replace hW := hW.trans hW2; replace hB := Nat.le_trans hB hW2.size; replace hM := hM2; clear hM2 hW2))
  refine wp_region_held_drew (S := (fun V => RowAt V w.heap.size r.cells 45)) (by kernel_rfl) ?_ (fun hHeld => ?_)
  · exact hr.dr
  replace hM := hM.dr
  replace hW := hW.dr
  replace hA := hA.drR
  replace hS : w.heap.size + 2 ≤ (World.drew _).heap.size := hS
  replace hB : B ≤ (World.drew _).heap.size := hB
  replace hq := hq.dr
  generalize World.drew _ = V at hHeld hM hW hA hS hB hq ⊢
  clear hr
  refine tkO 0 (.pointer (some ⟨b, 0, none⟩)) (by simp only [gT, gZ]; rfl) (puO (by (intro w hSw; (try dsimp only at hSw); go_simp))) ?_
  simp only [Act.put, pA, pZ, pS]
  refine tkO 1 (.pointer (some ⟨w.heap.size, 2, none⟩)) (by simp only [gT, gZ, gS]; rfl) (puO (by (intro w hSw; (try dsimp only at hSw); go_simp))) ?_
  simp only [Act.put, pA, pZ, pS]
  refine tkO 2 (.int .u32 (r.av : Nat)) (by simp only [gT, gZ, gS]; rfl) (y_rav w.heap.size r _ (fun V hV => hV) rfl) ?_
  simp only [Act.put, pA, pZ, pS]
  refine tkO 3 (.int .u32 (((r.av : Int) + 4) % 4294967296)) (by simp only [gT, gZ, gS]; rfl) (puO (by (intro w hSw; (try dsimp only at hSw); go_simp ; exact e4.out))) ?_
  simp only [Act.put, pA, pZ, pS]
  refine tkO 4 (.agg r.cells) (by simp only [gT, gZ, gS]; rfl) (y_rp w.heap.size r (fun V hV => hV) rfl rfl) ?_
  simp only [Act.put, pA, pZ, pS]
  refine tkO 5 (.pointer (some ⟨w.heap.size, 4, none⟩)) (by simp only [gT, gZ, gS]; rfl) (puO (by (intro w hSw; (try dsimp only at hSw); go_simp))) ?_
  simp only [Act.put, pA, pZ, pS]
  refine tkO 6 (.int .u16 (r.la : Nat)) (by simp only [gT, gZ, gS]; rfl) (y_rla w.heap.size r _ (fun V hV => hV) rfl) ?_
  simp only [Act.put, pA, pZ, pS]
  refine skO 7 (by simp only [gT, gZ, gS]; rfl) (fun K hK => ?_)
  rw [if_pos (by rfl)]
  go_simp
  (with_reducible refine (HS.out _).mono ?_)
  rintro e V2 ⟨rfl, hbc⟩
  have hH2 := hide (hHeld.bl hbc)
  replace hM := hM.bl hbc
  replace hW := hW.bl hbc hB
  replace hA := hA.bl hbc
  replace hB := Nat.le_trans hB hbc.size
  replace hS := Nat.le_trans hS hbc.size
  replace hq := hq.bl hbc
  clear hHeld hbc
  go_simp
  refine hK.out _ _ ?_ (fun hHeld => ?_)
  · exact hH2.out
  clear hK K
  clear hH2
  refine tkO 8 (.int .u32 (2 * (sl : Int))) (by simp only [gT, gZ, gS]; rfl) (puO (by (intro w hSw; (try dsimp only at hSw); go_simp ; exact e3.out))) ?_
  simp only [Act.put, pA, pZ, pS]
  refine tkO 9 (.int .u32 (aH : Nat)) (by simp only [gT, gZ, gS]; rfl) (puO (by (intro w hSw; (try dsimp only at hSw); go_simp ; exact e5.out))) ?_
  simp only [Act.put, pA, pZ, pS]
  refine skO 10 (by simp only [gT, gZ, gS]; rfl) (fun K hK => ?_)
  rw [if_pos (by rfl)]
  go_simp
  (with_reducible refine (HL2.out _ _ hM hA).mono ?_)
  rintro e V2 ⟨rfl, O2, hM2, hW2⟩
  have hH2 := hide (hW2.row hHeld (hF.at 0 (by omega)))
  replace hq := hW2.row hq (hF.at 1 (by omega))
  replace hA := hA.wentR hG hW2
  replace hF := hF.went hW2 hS
  replace hS := Nat.le_trans hS hW2.size
  replace hW := hW.trans hW2
  replace hB := Nat.le_trans hB hW2.size
  replace hM := hM2
  clear hM2 hW2 hHeld
  go_simp
  refine hK.out _ _ ?_ (fun hHeld => ?_)
  · exact hH2.out
  clear hK K
  clear hH2
  refine tkO 11 (.tuple #[.int .u32 0, (.iface 129 (.int .i64 22))]) (by simp only [gT, gZ, gS]; rfl) (puO (by (intro w hSw; (try dsimp only at hSw); go_simp))) ?_
  simp only [Act.put, pA, pZ, pS]
  refine tkO 12 (.int .u32 0) (by simp only [gT, gZ, gS]; rfl) (puO (by (intro w hSw; (try dsimp only at hSw); go_simp))) ?_
  simp only [Act.put, pA, pZ, pS]
  refine tkO 13 ((.iface 129 (.int .i64 22))) (by simp only [gT, gZ, gS]; rfl) (puO (by (intro w hSw; (try dsimp only at hSw); go_simp))) ?_
  simp only [Act.put, pA, pZ, pS]
  refine tkO 14 (.int .u32 0) (by simp only [gT, gZ, gS]; rfl) (puO (by (intro w hSw; (try dsimp only at hSw); go_simp))) ?_
  simp only [Act.put, pA, pZ, pS]
  refine tkO 15 ((.iface 129 (.int .i64 22))) (by simp only [gT, gZ, gS]; rfl) (puO (by (intro w hSw; (try dsimp only at hSw); go_simp))) ?_
  simp only [Act.put, pA, pZ, pS]
  refine wpAnyH_done (by kernel_rfl) ?_ _
  have hr := hHeld
  clear hHeld
  go_wp2_with (first | ((with_reducible refine ld_rsz w.heap.size _ _ hr ?_ ?_ ?_); exact rfl; exact rfl) | ((with_reducible refine ld_rla w.heap.size _ _ hr ?_ ?_ ?_); exact rfl; exact rfl) | ((with_reducible refine ld_rp w.heap.size _ hr ?_ ?_ ?_); exact rfl; exact rfl) | ((with_reducible refine st_rp (w.heap.size + 1) _ zeroRg hq ?_ ?_ ?_); exact rfl; exact rfl; intro W hnew ho; replace hr := hr.only ho (by omega); replace hM := hM.only ho (hF.at 1 (by omega)); replace hA := hA.onlyR ho (by omega); replace hW := hW.only ho (by omega) (by omega); replace hS := (show w.heap.size + 2 ≤ W.heap.size by rw [ho.size]; exact hS); replace hB := (show B ≤ W.heap.size by rw [ho.size]; exact hB); replace hq := hnew; clear hnew ho))
  refine bodyPost_ret (results_cell_uuu Tryz.results31 _ _ (w.heap.size + 1) _ _ _ rfl hq Tryz.underlying45 rfl size_rp) rfl ?_
  exact ⟨rfl, _, hM, hW⟩
set_option maxHeartbeats 2000000 in
theorem next_many (r : Rg) (hr0 : r.Ok) (hc : chkR r = true) {w : World} {B b p c : Nat} {f : Nat → Nat} {O : Nat → Prop} (h : RamB w B b p f c O) (hA : AreasAt w) (hG : 2 < B) (h0 : plB p (avC r) 2 = true) (h1 : ahN r (numF f (plM (avC r)) 2) ≠ 0) (h2 : r.sz < (ahN r (numF f (plM (avC r)) 2) : Int)) (h3 : plB p (avH r) 2 = true) :
    Calls Tryz.prog 31 #[.agg r.cells, .pointer (some ⟨b, 0, none⟩)] w fun e w' => e = .returned (.tuple #[.agg zeroRg.cells, .int .i64 0, .bool false, .iface 129 (.int .i64 22)]) ∧ ∃ O', RamB w' B b p f c O' ∧ Went B O O' w w' := by
  have hB0 := h.base
  have hGw : 2 < w.heap.size := Nat.lt_of_lt_of_le hG hB0
  have hA0 := hA
  clear hA
  obtain ⟨k, hk, hk0, hk1⟩ := chkR_sz hc
  obtain ⟨al1, al2, al3⟩ := chkR_al hc
  have HC : Hid (∀ W, Calls Tryz.prog 65 #[.agg r.cells, .pointer (some ⟨b, 0, none⟩)] W fun e w' => e = .returned .nilIface ∧ Below W.heap.size W w') := hide (fun W => by have := rcheckw_any r hr0 b W; rw [hc] at this; exact this)
  have hla := hr0.la
  have hav := hr0.av
  have HL1 : Hid (∀ W O1, RamB W B b p f c O1 → AreasAt W → Calls Tryz.prog 66 #[.pointer (some ⟨b, 0, none⟩), .int .u32 (avC r : Nat), .int .i64 2] W fun e w' => e = .returned (.tuple #[.int .u32 (numF f (plM (avC r)) 2 : Nat), .nilIface]) ∧ ∃ O', RamB w' B b p f c O' ∧ Went B O1 O' W w') := hide (fun W O1 hM hA => rload_ok hM hA hG (avC r) 2 (by unfold avC t32; omega) (by decide) (by unfold avC t32; omega) h0)
  have hcl : numF f (plM (avC r)) 2 < 65536 := numF_lt h.small _ 2
  have e1 : ((r.av : Int) + 2) % 4294967296 = ((avC r : Nat) : Int) := by unfold avC t32; omega
  have ew : IntKind.u16.wrap (((numF f (plM (avC r)) 2 : Nat) : Int) - (r.la : Int)) = ((ahN r (numF f (plM (avC r)) 2) : Nat) : Int) := by rw [IntKind.wrap_u16]; unfold ahN; omega
  have ea : (((numF f (plM (avC r)) 2 : Nat) : Int) - (r.la : Int)) % 65536 = ((ahN r (numF f (plM (avC r)) 2) : Nat) : Int) := by unfold ahN; omega
  have HL2 : Hid (∀ W O1, RamB W B b p f c O1 → AreasAt W → Calls Tryz.prog 66 #[.pointer (some ⟨b, 0, none⟩), .int .u32 (avH r : Nat), .int .i64 2] W fun e w' => e = .returned (.tuple #[.int .u32 (numF f (plM (avH r)) 2 : Nat), .nilIface]) ∧ ∃ O', RamB w' B b p f c O' ∧ Went B O1 O' W w') := hide (fun W O1 hM hA => rload_ok hM hA hG (avH r) 2 (by unfold avH t32; omega) (by decide) (by unfold avH t32; omega) h3)
  have hsl := slotN_lt hc r.la
  have HS : Hid (∀ W, Calls Tryz.prog 67 #[.agg r.cells, .int .u16 (r.la : Nat)] W fun e w' => e = .returned (.int .u32 (slotN r r.la : Nat)) ∧ Below W.heap.size W w') := hide (fun W => slot_any r hc r.la hla W)
  have e2 : (((r.av : Int) + 4) % 4294967296 + (2 * ((slotN r r.la : Nat) : Int))) % 4294967296 = ((avH r : Nat) : Int) := by unfold avH t32; omega
  have hdl : numF f (plM (avH r)) 2 < 65536 := numF_lt h.small _ 2
  generalize numF f (plM (avH r)) 2 = hd at *
  generalize avH r = aH at *
  generalize slotN r r.la = sl at *
  have e3 : Hid (IntKind.u32.wrap (2 * (sl : Int)) = 2 * (sl : Int)) := hide (by rw [IntKind.wrap_u32]; omega)
  have e4 : Hid (IntKind.u32.wrap ((r.av : Int) + 4) = ((r.av : Int) + 4) % 4294967296) := hide (by rw [IntKind.wrap_u32])
  have e5 : Hid (IntKind.u32.wrap (((r.av : Int) + 4) % 4294967296 + (2 * ((sl : Nat) : Int))) = (aH : Int)) := hide (by rw [IntKind.wrap_u32]; exact e2)
  generalize numF f (plM (avC r)) 2 = cnt at *
  generalize avC r = aC at *
  have hal : ahN r cnt < 65536 := Nat.mod_lt _ (by decide)
  generalize ahN r cnt = ah at *
  have t1 : ((ah : Int) == 0) = false := by simp; omega
  have t2 : decide (r.sz < (ah : Int)) = true := by simp; omega
  have t2b : (ah : Int) > r.sz := by omega
  clear hk hr0 hc al1 al2 al3 h0 h1 h3 e2
  go_enter Tryz.func31, Tryz.ntmps31
  go_wp2_with (first | ((with_reducible refine bx_rp w.heap.size r ?_ ?_ ?_); exact rfl; exact rfl; intro W hr hb hz) | ((with_reducible refine al_rp (w.heap.size + 1) ?_ ?_); exact hz.out; intro W hq hb' hz'; replace hr := hr.bl (hz.out ▸ hb'); replace hb := hb.trans (hb'.mono (by omega)); replace hz := hz'; have hM := h.bl hb; have hW := Went.of (O := O) hb hB0; have hA := hA0.bl hb; have hF := h.far 2; have hS : w.heap.size + 2 ≤ W.heap.size := Nat.le_of_eq hz.out.symm; have hB : B ≤ W.heap.size := Nat.le_trans hB0 hb.size; clear hb hz hb' hz') | ((with_reducible refine ld_rp w.heap.size _ hr ?_ ?_ ?_); exact rfl; exact rfl) | (go_at_call 65; (with_reducible refine (HC.out _).mono ?_); rintro e W ⟨rfl, hbc⟩; replace hM := hM.bl hbc; replace hW := hW.bl hbc hB; replace hA := hA.bl hbc; replace hB := Nat.le_trans hB hbc.size; replace hS := Nat.le_trans hS hbc.size; replace hr := hr.bl hbc; replace hq := hq.bl hbc) | ((with_reducible refine ld_rav w.heap.size _ _ hr ?_ ?_ ?_); exact rfl; exact rfl) | ((with_reducible refine ld_rla w.heap.size _ _ hr ?_ ?_ ?_); exact rfl; exact rfl) | (go_at_call 66; (with_reducible refine (HL1.out _ _ hM hA).mono ?_); rintro e W2 ⟨rfl, O2, hM2, hW2⟩; replace hr := hW2.row hr (hF.at 0 (by omega)); replace hq := hW2.row hq (hF.at 1 (by omega)); replace hA := hA.wentR hG hW2; replace hF := hF.went hW2 hS; replace hS := Nat.le_trans hS hW2.size; replace hW := hW.trans hW2; replace hB := Nat.le_trans hB hW2.size; replace hM := hM2; clear hM2 hW2))
  refine wp_region_held_drew (S := (fun V => RowAt V w.heap.size r.cells 45)) (by kernel_rfl) ?_ (fun hHeld => ?_)
  · exact hr.dr
  replace hM := hM.dr
  replace hW := hW.dr
  replace hA := hA.drR
  replace hS : w.heap.size + 2 ≤ (World.drew _).heap.size := hS
  replace hB : B ≤ (World.drew _).heap.size := hB
  replace hq := hq.dr
  generalize World.drew _ = V at hHeld hM hW hA hS hB hq ⊢
  clear hr
  refine tkO 0 (.pointer (some ⟨b, 0, none⟩)) (by simp only [gT, gZ]; rfl) (puO (by (intro w hSw; (try dsimp only at hSw); go_simp))) ?_
  simp only [Act.put, pA, pZ, pS]
  refine tkO 1 (.pointer (some ⟨w.heap.size, 2, none⟩)) (by simp only [gT, gZ, gS]; rfl) (puO (by (intro w hSw; (try dsimp only at hSw); go_simp))) ?_
  simp only [Act.put, pA, pZ, pS]
  refine tkO 2 (.int .u32 (r.av : Nat)) (by simp only [gT, gZ, gS]; rfl) (y_rav w.heap.size r _ (fun V hV => hV) rfl) ?_
  simp only [Act.put, pA, pZ, pS]
  refine tkO 3 (.int .u32 (((r.av : Int) + 4) % 4294967296)) (by simp only [gT, gZ, gS]; rfl) (puO (by (intro w hSw; (try dsimp only at hSw); go_simp ; exact e4.out))) ?_
  simp only [Act.put, pA, pZ, pS]
  refine tkO 4 (.agg r.cells) (by simp only [gT, gZ, gS]; rfl) (y_rp w.heap.size r (fun V hV => hV) rfl rfl) ?_
  simp only [Act.put, pA, pZ, pS]
  refine tkO 5 (.pointer (some ⟨w.heap.size, 4, none⟩)) (by simp only [gT, gZ, gS]; rfl) (puO (by (intro w hSw; (try dsimp only at hSw); go_simp))) ?_
  simp only [Act.put, pA, pZ, pS]
  refine tkO 6 (.int .u16 (r.la : Nat)) (by simp only [gT, gZ, gS]; rfl) (y_rla w.heap.size r _ (fun V hV => hV) rfl) ?_
  simp only [Act.put, pA, pZ, pS]
  refine skO 7 (by simp only [gT, gZ, gS]; rfl) (fun K hK => ?_)
  rw [if_pos (by rfl)]
  go_simp
  (with_reducible refine (HS.out _).mono ?_)
  rintro e V2 ⟨rfl, hbc⟩
  have hH2 := hide (hHeld.bl hbc)
  replace hM := hM.bl hbc
  replace hW := hW.bl hbc hB
  replace hA := hA.bl hbc
  replace hB := Nat.le_trans hB hbc.size
  replace hS := Nat.le_trans hS hbc.size
  replace hq := hq.bl hbc
  clear hHeld hbc
  go_simp
  refine hK.out _ _ ?_ (fun hHeld => ?_)
  · exact hH2.out
  clear hK K
  clear hH2
  refine tkO 8 (.int .u32 (2 * (sl : Int))) (by simp only [gT, gZ, gS]; rfl) (puO (by (intro w hSw; (try dsimp only at hSw); go_simp ; exact e3.out))) ?_
  simp only [Act.put, pA, pZ, pS]
  refine tkO 9 (.int .u32 (aH : Nat)) (by simp only [gT, gZ, gS]; rfl) (puO (by (intro w hSw; (try dsimp only at hSw); go_simp ; exact e5.out))) ?_
  simp only [Act.put, pA, pZ, pS]
  refine skO 10 (by simp only [gT, gZ, gS]; rfl) (fun K hK => ?_)
  rw [if_pos (by rfl)]
  go_simp
  (with_reducible refine (HL2.out _ _ hM hA).mono ?_)
  rintro e V2 ⟨rfl, O2, hM2, hW2⟩
  have hH2 := hide (hW2.row hHeld (hF.at 0 (by omega)))
  replace hq := hW2.row hq (hF.at 1 (by omega))
  replace hA := hA.wentR hG hW2
  replace hF := hF.went hW2 hS
  replace hS := Nat.le_trans hS hW2.size
  replace hW := hW.trans hW2
  replace hB := Nat.le_trans hB hW2.size
  replace hM := hM2
  clear hM2 hW2 hHeld
  go_simp
  refine hK.out _ _ ?_ (fun hHeld => ?_)
  · exact hH2.out
  clear hK K
  clear hH2
  refine tkO 11 (.tuple #[.int .u32 (hd : Nat), .nilIface]) (by simp only [gT, gZ, gS]; rfl) (puO (by (intro w hSw; (try dsimp only at hSw); go_simp))) ?_
  simp only [Act.put, pA, pZ, pS]
  refine tkO 12 (.int .u32 (hd : Nat)) (by simp only [gT, gZ, gS]; rfl) (puO (by (intro w hSw; (try dsimp only at hSw); go_simp))) ?_
  simp only [Act.put, pA, pZ, pS]
  refine tkO 13 (.nilIface) (by simp only [gT, gZ, gS]; rfl) (puO (by (intro w hSw; (try dsimp only at hSw); go_simp))) ?_
  simp only [Act.put, pA, pZ, pS]
  refine tkO 14 (.int .u32 (hd : Nat)) (by simp only [gT, gZ, gS]; rfl) (puO (by (intro w hSw; (try dsimp only at hSw); go_simp))) ?_
  simp only [Act.put, pA, pZ, pS]
  refine tkO 15 (.nilIface) (by simp only [gT, gZ, gS]; rfl) (puO (by (intro w hSw; (try dsimp only at hSw); go_simp))) ?_
  simp only [Act.put, pA, pZ, pS]
  refine wpAnyH_done (by kernel_rfl) ?_ _
  have hr := hHeld
  clear hHeld
  go_wp2_with (first | ((with_reducible refine ld_rsz w.heap.size _ _ hr ?_ ?_ ?_); exact rfl; exact rfl) | ((with_reducible refine ld_rla w.heap.size _ _ hr ?_ ?_ ?_); exact rfl; exact rfl) | ((with_reducible refine ld_rp w.heap.size _ hr ?_ ?_ ?_); exact rfl; exact rfl) | ((with_reducible refine st_rp (w.heap.size + 1) _ zeroRg hq ?_ ?_ ?_); exact rfl; exact rfl; intro W hnew ho; replace hr := hr.only ho (by omega); replace hM := hM.only ho (hF.at 1 (by omega)); replace hA := hA.onlyR ho (by omega); replace hW := hW.only ho (by omega) (by omega); replace hS := (show w.heap.size + 2 ≤ W.heap.size by rw [ho.size]; exact hS); replace hB := (show B ≤ W.heap.size by rw [ho.size]; exact hB); replace hq := hnew; clear hnew ho))
  refine bodyPost_ret (results_cell_uuu Tryz.results31 _ _ (w.heap.size + 1) _ _ _ rfl hq Tryz.underlying45 rfl size_rp) rfl ?_
  exact ⟨rfl, _, hM, hW⟩
set_option maxHeartbeats 2000000 in
theorem next_odd (r : Rg) (hr0 : r.Ok) (hc : chkR r = true) {w : World} {B b p c : Nat} {f : Nat → Nat} {O : Nat → Prop} (h : RamB w B b p f c O) (hA : AreasAt w) (hG : 2 < B) (h0 : plB p (avC r) 2 = true) (h1 : ahN r (numF f (plM (avC r)) 2) ≠ 0) (h2 : (ahN r (numF f (plM (avC r)) 2) : Int) ≤ r.sz) (h3 : plB p (avH r) 2 = true) (h4 : r.sz ≤ (numF f (plM (avH r)) 2 : Int)) :
    Calls Tryz.prog 31 #[.agg r.cells, .pointer (some ⟨b, 0, none⟩)] w fun e w' => e = .returned (.tuple #[.agg zeroRg.cells, .int .i64 0, .bool false, .iface 129 (.int .i64 22)]) ∧ ∃ O', RamB w' B b p f c O' ∧ Went B O O' w w' := by
  have hB0 := h.base
  have hGw : 2 < w.heap.size := Nat.lt_of_lt_of_le hG hB0
  have hA0 := hA
  clear hA
  obtain ⟨k, hk, hk0, hk1⟩ := chkR_sz hc
  obtain ⟨al1, al2, al3⟩ := chkR_al hc
  have HC : Hid (∀ W, Calls Tryz.prog 65 #[.agg r.cells, .pointer (some ⟨b, 0, none⟩)] W fun e w' => e = .returned .nilIface ∧ Below W.heap.size W w') := hide (fun W => by have := rcheckw_any r hr0 b W; rw [hc] at this; exact this)
  have hla := hr0.la
  have hav := hr0.av
  have HL1 : Hid (∀ W O1, RamB W B b p f c O1 → AreasAt W → Calls Tryz.prog 66 #[.pointer (some ⟨b, 0, none⟩), .int .u32 (avC r : Nat), .int .i64 2] W fun e w' => e = .returned (.tuple #[.int .u32 (numF f (plM (avC r)) 2 : Nat), .nilIface]) ∧ ∃ O', RamB w' B b p f c O' ∧ Went B O1 O' W w') := hide (fun W O1 hM hA => rload_ok hM hA hG (avC r) 2 (by unfold avC t32; omega) (by decide) (by unfold avC t32; omega) h0)
  have hcl : numF f (plM (avC r)) 2 < 65536 := numF_lt h.small _ 2
  have e1 : ((r.av : Int) + 2) % 4294967296 = ((avC r : Nat) : Int) := by unfold avC t32; omega
  have ew : IntKind.u16.wrap (((numF f (plM (avC r)) 2 : Nat) : Int) - (r.la : Int)) = ((ahN r (numF f (plM (avC r)) 2) : Nat) : Int) := by rw [IntKind.wrap_u16]; unfold ahN; omega
  have ea : (((numF f (plM (avC r)) 2 : Nat) : Int) - (r.la : Int)) % 65536 = ((ahN r (numF f (plM (avC r)) 2) : Nat) : Int) := by unfold ahN; omega
  have HL2 : Hid (∀ W O1, RamB W B b p f c O1 → AreasAt W → Calls Tryz.prog 66 #[.pointer (some ⟨b, 0, none⟩), .int .u32 (avH r : Nat), .int .i64 2] W fun e w' => e = .returned (.tuple #[.int .u32 (numF f (plM (avH r)) 2 : Nat), .nilIface]) ∧ ∃ O', RamB w' B b p f c O' ∧ Went B O1 O' W w') := hide (fun W O1 hM hA => rload_ok hM hA hG (avH r) 2 (by unfold avH t32; omega) (by decide) (by unfold avH t32; omega) h3)
  have hsl := slotN_lt hc r.la
  have HS : Hid (∀ W, Calls Tryz.prog 67 #[.agg r.cells, .int .u16 (r.la : Nat)] W fun e w' => e = .returned (.int .u32 (slotN r r.la : Nat)) ∧ Below W.heap.size W w') := hide (fun W => slot_any r hc r.la hla W)
  have e2 : (((r.av : Int) + 4) % 4294967296 + (2 * ((slotN r r.la : Nat) : Int))) % 4294967296 = ((avH r : Nat) : Int) := by unfold avH t32; omega
  have hdl : numF f (plM (avH r)) 2 < 65536 := numF_lt h.small _ 2
  generalize numF f (plM (avH r)) 2 = hd at *
  generalize avH r = aH at *
  generalize slotN r r.la = sl at *
  have e3 : Hid (IntKind.u32.wrap (2 * (sl : Int)) = 2 * (sl : Int)) := hide (by rw [IntKind.wrap_u32]; omega)
  have e4 : Hid (IntKind.u32.wrap ((r.av : Int) + 4) = ((r.av : Int) + 4) % 4294967296) := hide (by rw [IntKind.wrap_u32])
  have e5 : Hid (IntKind.u32.wrap (((r.av : Int) + 4) % 4294967296 + (2 * ((sl : Nat) : Int))) = (aH : Int)) := hide (by rw [IntKind.wrap_u32]; exact e2)
  generalize numF f (plM (avC r)) 2 = cnt at *
  generalize avC r = aC at *
  have hal : ahN r cnt < 65536 := Nat.mod_lt _ (by decide)
  generalize ahN r cnt = ah at *
  have t1 : ((ah : Int) == 0) = false := by simp; omega
  have t2 : decide (r.sz < (ah : Int)) = false := by simp; omega
  have t3 : decide (r.sz ≤ (hd : Int)) = true := by simp; omega
  have t3b : r.sz ≤ (hd : Int) := by omega
  clear hk hr0 hc al1 al2 al3 h0 h1 h3 e2
  go_enter Tryz.func31, Tryz.ntmps31
  go_wp2_with (first | ((with_reducible refine bx_rp w.heap.size r ?_ ?_ ?_); exact rfl; exact rfl; intro W hr hb hz) | ((with_reducible refine al_rp (w.heap.size + 1) ?_ ?_); exact hz.out; intro W hq hb' hz'; replace hr := hr.bl (hz.out ▸ hb'); replace hb := hb.trans (hb'.mono (by omega)); replace hz := hz'; have hM := h.bl hb; have hW := Went.of (O := O) hb hB0; have hA := hA0.bl hb; have hF := h.far 2; have hS : w.heap.size + 2 ≤ W.heap.size := Nat.le_of_eq hz.out.symm; have hB : B ≤ W.heap.size := Nat.le_trans hB0 hb.size; clear hb hz hb' hz') | ((with_reducible refine ld_rp w.heap.size _ hr ?_ ?_ ?_); exact rfl; exact rfl) | (go_at_call 65; (with_reducible refine (HC.out _).mono ?_); rintro e W ⟨rfl, hbc⟩; replace hM := hM.bl hbc; replace hW := hW.bl hbc hB; replace hA := hA.bl hbc; replace hB := Nat.le_trans hB hbc.size; replace hS := Nat.le_trans hS hbc.size; replace hr := hr.bl hbc; replace hq := hq.bl hbc) | ((with_reducible refine ld_rav w.heap.size _ _ hr ?_ ?_ ?_); exact rfl; exact rfl) | ((with_reducible refine ld_rla w.heap.size _ _ hr ?_ ?_ ?_); exact rfl; exact rfl) | (go_at_call 66; (with_reducible refine (HL1.out _ _ hM hA).mono ?_); rintro e W2 ⟨rfl, O2, hM2, hW2⟩; replace hr := hW2.row hr (hF.at 0 (by omega)); replace hq := hW2.row hq (hF.at 1 (by omega)); replace hA := hA.wentR hG hW2; replace hF := hF.went hW2 hS; replace hS := Nat.le_trans hS hW2.size; replace hW := hW.trans hW2; replace hB := Nat.le_trans hB hW2.size; replace hM := hM2; clear hM2 hW2))
  refine wp_region_held_drew (S := (fun V => RowAt V w.heap.size r.cells 45)) (by kernel_rfl) ?_ (fun hHeld => ?_)
  · exact hr.dr
  replace hM := hM.dr
  replace hW := hW.dr
  replace hA := hA.drR
  replace hS : w.heap.size + 2 ≤ (World.drew _).heap.size := hS
  replace hB : B ≤ (World.drew _).heap.size := hB
  replace hq := hq.dr
  generalize World.drew _ = V at hHeld hM hW hA hS hB hq ⊢
  clear hr
  refine tkO 0 (.pointer (some ⟨b, 0, none⟩)) (by simp only [gT, gZ]; rfl) (puO (by (intro w hSw; (try dsimp only at hSw); go_simp))) ?_
  simp only [Act.put, pA, pZ, pS]
  refine tkO 1 (.pointer (some ⟨w.heap.size, 2, none⟩)) (by simp only [gT, gZ, gS]; rfl) (puO (by (intro w hSw; (try dsimp only at hSw); go_simp))) ?_
  simp only [Act.put, pA, pZ, pS]
  refine tkO 2 (.int .u32 (r.av : Nat)) (by simp only [gT, gZ, gS]; rfl) (y_rav w.heap.size r _ (fun V hV => hV) rfl) ?_
  simp only [Act.put, pA, pZ, pS]
  refine tkO 3 (.int .u32 (((r.av : Int) + 4) % 4294967296)) (by simp only [gT, gZ, gS]; rfl) (puO (by (intro w hSw; (try dsimp only at hSw); go_simp ; exact e4.out))) ?_
  simp only [Act.put, pA, pZ, pS]
  refine tkO 4 (.agg r.cells) (by simp only [gT, gZ, gS]; rfl) (y_rp w.heap.size r (fun V hV => hV) rfl rfl) ?_
  simp only [Act.put, pA, pZ, pS]
  refine tkO 5 (.pointer (some ⟨w.heap.size, 4, none⟩)) (by simp only [gT, gZ, gS]; rfl) (puO (by (intro w hSw; (try dsimp only at hSw); go_simp))) ?_
  simp only [Act.put, pA, pZ, pS]
  refine tkO 6 (.int .u16 (r.la : Nat)) (by simp only [gT, gZ, gS]; rfl) (y_rla w.heap.size r _ (fun V hV => hV) rfl) ?_
  simp only [Act.put, pA, pZ, pS]
  refine skO 7 (by simp only [gT, gZ, gS]; rfl) (fun K hK => ?_)
  rw [if_pos (by rfl)]
  go_simp
  (with_reducible refine (HS.out _).mono ?_)
  rintro e V2 ⟨rfl, hbc⟩
  have hH2 := hide (hHeld.bl hbc)
  replace hM := hM.bl hbc
  replace hW := hW.bl hbc hB
  replace hA := hA.bl hbc
  replace hB := Nat.le_trans hB hbc.size
  replace hS := Nat.le_trans hS hbc.size
  replace hq := hq.bl hbc
  clear hHeld hbc
  go_simp
  refine hK.out _ _ ?_ (fun hHeld => ?_)
  · exact hH2.out
  clear hK K
  clear hH2
  refine tkO 8 (.int .u32 (2 * (sl : Int))) (by simp only [gT, gZ, gS]; rfl) (puO (by (intro w hSw; (try dsimp only at hSw); go_simp ; exact e3.out))) ?_
  simp only [Act.put, pA, pZ, pS]
  refine tkO 9 (.int .u32 (aH : Nat)) (by simp only [gT, gZ, gS]; rfl) (puO (by (intro w hSw; (try dsimp only at hSw); go_simp ; exact e5.out))) ?_
  simp only [Act.put, pA, pZ, pS]
  refine skO 10 (by simp only [gT, gZ, gS]; rfl) (fun K hK => ?_)
  rw [if_pos (by rfl)]
  go_simp
  (with_reducible refine (HL2.out _ _ hM hA).mono ?_)
  rintro e V2 ⟨rfl, O2, hM2, hW2⟩
  have hH2 := hide (hW2.row hHeld (hF.at 0 (by omega)))
  replace hq := hW2.row hq (hF.at 1 (by omega))
  replace hA := hA.wentR hG hW2
  replace hF := hF.went hW2 hS
  replace hS := Nat.le_trans hS hW2.size
  replace hW := hW.trans hW2
  replace hB := Nat.le_trans hB hW2.size
  replace hM := hM2
  clear hM2 hW2 hHeld
  go_simp
  refine hK.out _ _ ?_ (fun hHeld => ?_)
  · exact hH2.out
  clear hK K
  clear hH2
  refine tkO 11 (.tuple #[.int .u32 (hd : Nat), .nilIface]) (by simp only [gT, gZ, gS]; rfl) (puO (by (intro w hSw; (try dsimp only at hSw); go_simp))) ?_
  simp only [Act.put, pA, pZ, pS]
  refine tkO 12 (.int .u32 (hd : Nat)) (by simp only [gT, gZ, gS]; rfl) (puO (by (intro w hSw; (try dsimp only at hSw); go_simp))) ?_
  simp only [Act.put, pA, pZ, pS]
  refine tkO 13 (.nilIface) (by simp only [gT, gZ, gS]; rfl) (puO (by (intro w hSw; (try dsimp only at hSw); go_simp))) ?_
  simp only [Act.put, pA, pZ, pS]
  refine tkO 14 (.int .u32 (hd : Nat)) (by simp only [gT, gZ, gS]; rfl) (puO (by (intro w hSw; (try dsimp only at hSw); go_simp))) ?_
  simp only [Act.put, pA, pZ, pS]
  refine tkO 15 (.nilIface) (by simp only [gT, gZ, gS]; rfl) (puO (by (intro w hSw; (try dsimp only at hSw); go_simp))) ?_
  simp only [Act.put, pA, pZ, pS]
  refine wpAnyH_done (by kernel_rfl) ?_ _
  have hr := hHeld
  clear hHeld
  go_wp2_with (first | ((with_reducible refine ld_rsz w.heap.size _ _ hr ?_ ?_ ?_); exact rfl; exact rfl) | ((with_reducible refine ld_rla w.heap.size _ _ hr ?_ ?_ ?_); exact rfl; exact rfl) | ((with_reducible refine ld_rp w.heap.size _ hr ?_ ?_ ?_); exact rfl; exact rfl) | ((with_reducible refine st_rp (w.heap.size + 1) _ zeroRg hq ?_ ?_ ?_); exact rfl; exact rfl; intro W hnew ho; replace hr := hr.only ho (by omega); replace hM := hM.only ho (hF.at 1 (by omega)); replace hA := hA.onlyR ho (by omega); replace hW := hW.only ho (by omega) (by omega); replace hS := (show w.heap.size + 2 ≤ W.heap.size by rw [ho.size]; exact hS); replace hB := (show B ≤ W.heap.size by rw [ho.size]; exact hB); replace hq := hnew; clear hnew ho))
  refine bodyPost_ret (results_cell_uuu Tryz.results31 _ _ (w.heap.size + 1) _ _ _ rfl hq Tryz.underlying45 rfl size_rp) rfl ?_
  exact ⟨rfl, _, hM, hW⟩
/-- What Next answers: the ring, the head, whether there is one, the error's number. -/
def nextV (p : Nat) (f : Nat → Nat) (r : Rg) : Rg × Nat × Bool × Nat :=
  if chkR r = true then
    (if plB p (avC r) 2 = true then
      (if ahN r (numF f (plM (avC r)) 2) = 0 then (zeroRg, 0, false, 0)
       else if plB p (avH r) 2 = true then
         (if (ahN r (numF f (plM (avC r)) 2) : Int) ≤ r.sz ∧ (numF f (plM (avH r)) 2 : Int) < r.sz then (takenR r, numF f (plM (avH r)) 2, true, 0) else (zeroRg, 0, false, 22))
       else (zeroRg, 0, false, 22))
     else (zeroRg, 0, false, 22))
  else (zeroRg, 0, false, 1)
theorem rnext_any (r : Rg) (hr0 : r.Ok) {w : World} {B b p c : Nat} {f : Nat → Nat} {O : Nat → Prop} (h : RamB w B b p f c O) (hA : AreasAt w) (hG : 2 < B) :
    Calls Tryz.prog 31 #[.agg r.cells, .pointer (some ⟨b, 0, none⟩)] w fun e w' => e = .returned (.tuple #[.agg (nextV p f r).1.cells, .int .i64 ((nextV p f r).2.1 : Nat), .bool (nextV p f r).2.2.1, errR (nextV p f r).2.2.2]) ∧ ∃ O', RamB w' B b p f c O' ∧ Went B O O' w w' := by
  unfold nextV
  by_cases hc : chkR r = true
  · rw [if_pos hc]
    by_cases h0 : plB p (avC r) 2 = true
    · rw [if_pos h0]
      by_cases h1 : ahN r (numF f (plM (avC r)) 2) = 0
      · rw [if_pos h1]; exact next_none r hr0 hc h hA hG h0 h1
      rw [if_neg h1]
      by_cases h3 : plB p (avH r) 2 = true
      · rw [if_pos h3]
        by_cases h2 : (ahN r (numF f (plM (avC r)) 2) : Int) ≤ r.sz
        · by_cases h4 : (numF f (plM (avH r)) 2 : Int) < r.sz
          · rw [if_pos ⟨h2, h4⟩]; exact next_took r hr0 hc h hA hG h0 h1 h2 h3 h4
          · rw [if_neg (fun e => h4 e.2)]; exact next_odd r hr0 hc h hA hG h0 h1 h2 h3 (by omega)
        · rw [if_neg (fun e => h2 e.1)]; exact next_many r hr0 hc h hA hG h0 h1 (by omega) h3
      · rw [if_neg h3]; exact next_far r hr0 hc h hA hG h0 h1 (by simpa using h3)
    · rw [if_neg h0]; exact next_out r hr0 hc h hA hG (by simpa using h0)
  · rw [if_neg hc]
    refine (next_bad r hr0 (by simpa using hc) b w).mono ?_
    rintro e w' ⟨rfl, hb⟩
    exact ⟨rfl, O, h.bl hb, Went.of hb h.base⟩
end Go.Proofs.YtaaiockiojejeaaGreatDoor
