/-
  What blk answers, plain.
-/
import Derived.Test.YtaaiockiojejeaaGreatDoorJH11
import Derived.Test.YtaaiockiojejeaaGreatDoorJH19
import Derived.Test.YtaaiockiojejeaaGreatDoorJH24
import Derived.Test.YtaaiockiojejeaaGreatDoorJH23
import Derived.Test.YtaaiockiojejeaaGreatDoorJH22
namespace Go.Proofs.YtaaiockiojejeaaGreatDoor
open Go.RowKit
set_option linter.unusedVariables false
set_option linter.unusedSimpArgs false

attribute [local go_sem] Rg.at0 Rg.at1 Rg.at2 Rg.at3 Rg.at4 Rg.at5
set_option maxHeartbeats 1000000 in
theorem give_bad (r : Rg) (hr0 : r.Ok) (hc : chkR r = false) (b : Nat) (hd : Int) (n : Nat) (w : World) : Calls Tryz.prog 94 #[.agg r.cells, .pointer (some ⟨b, 0, none⟩), .int .i64 hd, .int .u32 (n : Nat)] w fun e w' => e = .returned (.tuple #[.agg zeroRg.cells, .iface 129 (.int .i64 1)]) ∧ Below w.heap.size w w' := by
  have HC : Hid (∀ W, Calls Tryz.prog 65 #[.agg r.cells, .pointer (some ⟨b, 0, none⟩)] W fun e w' => e = .returned (.iface 129 (.int .i64 1)) ∧ Below W.heap.size W w') := hide (fun W => by have := rcheckw_any r hr0 b W; rw [hc] at this; exact this)
  clear hc hr0
  go_enter Tryz.func94, Tryz.ntmps94
  go_wp2_with (first | ((with_reducible refine bx_rp w.heap.size r ?_ ?_ ?_); exact rfl; exact rfl; intro W hr hb hz) | ((with_reducible refine al_rp (w.heap.size + 1) ?_ ?_); exact hz.out; intro W hq hb' hz'; replace hr := hr.bl (hz.out ▸ hb'); replace hb := hb.trans (hb'.mono (by omega)); replace hz := hz') | ((with_reducible refine ld_rp w.heap.size _ hr ?_ ?_ ?_); exact rfl; exact rfl) | (go_at_call 65; (with_reducible refine (HC.out _).mono ?_); rintro e W ⟨rfl, hbc⟩; replace hr := hr.bl hbc; replace hq := hq.bl hbc; replace hb := below_bl rfl hb hbc) | ((with_reducible refine st_rp (w.heap.size + 1) _ zeroRg hq ?_ ?_ ?_); exact rfl; exact rfl; intro W hnew ho; replace hr := hr.only ho (by omega); replace hq := hnew; replace hb := ho.bel _ _ (by omega) hb))
  refine bodyPost_ret (results_cell_u Tryz.results94 _ _ (w.heap.size + 1) _ _ _ rfl hq Tryz.underlying45 rfl size_rp) rfl ?_
  exact ⟨rfl, hb⟩
set_option maxHeartbeats 1000000 in
theorem give_hd (r : Rg) (hr0 : r.Ok) (hc : chkR r = true) (b : Nat) (hd : Int) (n : Nat) (hh : ¬ (0 ≤ hd ∧ hd < r.sz)) (w : World) : Calls Tryz.prog 94 #[.agg r.cells, .pointer (some ⟨b, 0, none⟩), .int .i64 hd, .int .u32 (n : Nat)] w fun e w' => e = .returned (.tuple #[.agg zeroRg.cells, .iface 129 (.int .i64 22)]) ∧ Below w.heap.size w w' := by
  have HC : Hid (∀ W, Calls Tryz.prog 65 #[.agg r.cells, .pointer (some ⟨b, 0, none⟩)] W fun e w' => e = .returned (.nilIface) ∧ Below W.heap.size W w') := hide (fun W => by have := rcheckw_any r hr0 b W; rw [hc] at this; exact this)
  have HH : Hid (∀ W, Calls Tryz.prog 126 #[.agg r.cells, .int .i64 hd] W fun e w' => e = .returned (.bool false) ∧ Below W.heap.size W w') := hide (fun W => by have := ishead_any r hd W; rwa [decide_eq_false hh] at this)
  clear hc hr0 hh
  go_enter Tryz.func94, Tryz.ntmps94
  go_wp2_with (first | ((with_reducible refine bx_rp w.heap.size r ?_ ?_ ?_); exact rfl; exact rfl; intro W hr hb hz) | ((with_reducible refine al_rp (w.heap.size + 1) ?_ ?_); exact hz.out; intro W hq hb' hz'; replace hr := hr.bl (hz.out ▸ hb'); replace hb := hb.trans (hb'.mono (by omega)); replace hz := hz') | ((with_reducible refine ld_rp w.heap.size _ hr ?_ ?_ ?_); exact rfl; exact rfl) | (go_at_call 65; (with_reducible refine (HC.out _).mono ?_); rintro e W ⟨rfl, hbc⟩; replace hr := hr.bl hbc; replace hq := hq.bl hbc; replace hb := below_bl rfl hb hbc) | (go_at_call 126; (with_reducible refine (HH.out _).mono ?_); rintro e W ⟨rfl, hbc⟩; replace hr := hr.bl hbc; replace hq := hq.bl hbc; replace hb := below_bl rfl hb hbc) | ((with_reducible refine st_rp (w.heap.size + 1) _ zeroRg hq ?_ ?_ ?_); exact rfl; exact rfl; intro W hnew ho; replace hr := hr.only ho (by omega); replace hq := hnew; replace hb := ho.bel _ _ (by omega) hb))
  refine bodyPost_ret (results_cell_u Tryz.results94 _ _ (w.heap.size + 1) _ _ _ rfl hq Tryz.underlying45 rfl size_rp) rfl ?_
  exact ⟨rfl, hb⟩
set_option maxHeartbeats 2000000 in
theorem give_out (r : Rg) (hr0 : r.Ok) (hc : chkR r = true) {w : World} {B b p c : Nat} {f : Nat → Nat} {O : Nat → Prop} (h : RamB w B b p f c O) (hA : AreasAt w) (hG : 2 < B) (hd n : Nat) (hh : (hd : Int) < r.sz) (hn : n < 4294967296) (h1 : plB p (usH r) 8 = false) :
    Calls Tryz.prog 94 #[.agg r.cells, .pointer (some ⟨b, 0, none⟩), .int .i64 (hd : Nat), .int .u32 (n : Nat)] w fun e w' => e = .returned (.tuple #[.agg zeroRg.cells, .iface 129 (.int .i64 22)]) ∧ ∃ O', RamB w' B b p f c O' ∧ Went B O O' w w' := by
  have hB0 := h.base
  have hGw : 2 < w.heap.size := Nat.lt_of_lt_of_le hG hB0
  have hA0 := hA
  clear hA
  obtain ⟨k, hk, hk0, hk1⟩ := chkR_sz hc
  obtain ⟨al1, al2, al3⟩ := chkR_al hc
  have HC : Hid (∀ W, Calls Tryz.prog 65 #[.agg r.cells, .pointer (some ⟨b, 0, none⟩)] W fun e w' => e = .returned .nilIface ∧ Below W.heap.size W w') := hide (fun W => by have := rcheckw_any r hr0 b W; rw [hc] at this; exact this)
  have hpu := hr0.pu
  have hus := hr0.us
  have hfew := h.few
  have hdl : hd < 256 := by omega
  have hsl := slotN_lt hc r.pu
  have b1 : usH r < 4294967296 ∧ usN r < 4294967296 ∧ usC r < 4294967296 := ⟨Nat.mod_lt _ (by decide), Nat.mod_lt _ (by decide), Nat.mod_lt _ (by decide)⟩
  have b2 : usH r % 4 = 0 ∧ usN r % 4 = 0 ∧ usC r % 2 = 0 := by unfold usN usC usH t32; omega
  have HH : Hid (∀ W, Calls Tryz.prog 126 #[.agg r.cells, .int .i64 (hd : Nat)] W fun e w' => e = .returned (.bool true) ∧ Below W.heap.size W w') := hide (fun W => by have := ishead_any r (hd : Int) W; rwa [decide_eq_true (by omega)] at this)
  have HS : Hid (∀ W, Calls Tryz.prog 67 #[.agg r.cells, .int .u16 (r.pu : Nat)] W fun e w' => e = .returned (.int .u32 (slotN r r.pu : Nat)) ∧ Below W.heap.size W w') := hide (fun W => slot_any r hc r.pu hpu W)
  have HN : Hid (∀ W O1, RamB W B b p f c O1 → AreasAt W → Calls Tryz.prog 127 #[.pointer (some ⟨b, 0, none⟩), .int .u32 (usH r : Nat), .int .u64 8] W fun e w' => e = .returned (.bool false) ∧ Below W.heap.size W w') := hide (fun W O1 hM hA => by have := isin_b hM hA (usH r) 8 b1.1 (by decide); rwa [h1] at this)
  have e1 : ((r.us : Int) + 2) % 4294967296 = ((usC r : Nat) : Int) := by unfold usC t32; omega
  have e2 : (((r.us : Int) + 4) % 4294967296 + (8 * ((slotN r r.pu : Nat) : Int))) % 4294967296 = ((usH r : Nat) : Int) := by unfold usH t32; omega
  have en : ((usH r : Int) + 4) % 4294967296 = ((usN r : Nat) : Int) := by unfold usN t32; omega
  have en2 : IntKind.u32.wrap ((usH r : Int) + 4) = ((usN r : Nat) : Int) := by rw [IntKind.wrap_u32]; exact en
  generalize usC r = aC at *
  generalize usN r = aN at *
  generalize usH r = aH at *
  generalize slotN r r.pu = sl at *
  have e3 : Hid (IntKind.u32.wrap (8 * (sl : Int)) = 8 * (sl : Int)) := hide (by rw [IntKind.wrap_u32]; omega)
  have e4 : Hid (IntKind.u32.wrap ((r.us : Int) + 4) = ((r.us : Int) + 4) % 4294967296) := hide (by rw [IntKind.wrap_u32])
  have e5 : Hid (IntKind.u32.wrap (((r.us : Int) + 4) % 4294967296 + (8 * ((sl : Nat) : Int))) = (aH : Int)) := hide (by rw [IntKind.wrap_u32]; exact e2)
  obtain ⟨pn, hpn⟩ : ∃ x, (r.pu + 1) % 65536 = x := ⟨_, rfl⟩
  have e6 : Hid (((r.pu : Int) + 1) % 65536 = (pn : Int)) := hide (by omega)
  have hpl : pn < 65536 := by omega
  have htr : ({ r with pu := pn } : Rg) = givenR r := by unfold givenR; rw [hpn]
  have hgp : (givenR r).pu = pn := hpn
  have hgu : (givenR r).us = r.us := rfl
  clear hk hr0 hc al1 al2 al3 h1 b1 b2 e2 hh hpn
  go_enter Tryz.func94, Tryz.ntmps94
  go_wp2_with (first | ((with_reducible refine bx_rp w.heap.size r ?_ ?_ ?_); exact rfl; exact rfl; intro W hr hb hz) | ((with_reducible refine al_rp (w.heap.size + 1) ?_ ?_); exact hz.out; intro W hq hb' hz'; replace hr := hr.bl (hz.out ▸ hb'); replace hb := hb.trans (hb'.mono (by omega)); replace hz := hz'; have hM := h.bl hb; have hW := Went.of (O := O) hb hB0; have hA := hA0.bl hb; have hF := h.far 2; have hS : w.heap.size + 2 ≤ W.heap.size := Nat.le_of_eq hz.out.symm; have hB : B ≤ W.heap.size := Nat.le_trans hB0 hb.size; clear hb hz hb' hz') | ((with_reducible refine ld_rp w.heap.size _ hr ?_ ?_ ?_); exact rfl; exact rfl) | (go_at_call 65; (with_reducible refine (HC.out _).mono ?_); rintro e W ⟨rfl, hbc⟩; replace hM := hM.bl hbc; replace hW := hW.bl hbc hB; replace hA := hA.bl hbc; replace hB := Nat.le_trans hB hbc.size; replace hS := Nat.le_trans hS hbc.size; replace hr := hr.bl hbc; replace hq := hq.bl hbc) | (go_at_call 126; (with_reducible refine (HH.out _).mono ?_); rintro e W ⟨rfl, hbc⟩; replace hM := hM.bl hbc; replace hW := hW.bl hbc hB; replace hA := hA.bl hbc; replace hB := Nat.le_trans hB hbc.size; replace hS := Nat.le_trans hS hbc.size; replace hr := hr.bl hbc; replace hq := hq.bl hbc))
  refine wp_region_held_drew (S := (fun V => RowAt V w.heap.size r.cells 45)) (by kernel_rfl) ?_ (fun hHeld => ?_)
  · exact hr.dr
  replace hM := hM.dr
  replace hW := hW.dr
  replace hA := hA.drR
  replace hS : w.heap.size + 2 ≤ (World.drew _).heap.size := hS
  replace hB : B ≤ (World.drew _).heap.size := hB
  replace hq := hq.dr
  generalize World.drew _ = V at hHeld hM hW hA hS hB hq ⊢
  clear hr
  refine tkO 0 (.pointer (some ⟨w.heap.size, 3, none⟩)) (by simp only [gT, gZ]; rfl) (puO (by (intro w hSw; (try dsimp only at hSw); go_simp))) ?_
  simp only [Act.put, pA, pZ, pS]
  refine tkO 1 (.int .u32 (r.us : Nat)) (by simp only [gT, gZ, gS]; rfl) (y_rus w.heap.size r _ (fun V hV => hV) rfl) ?_
  simp only [Act.put, pA, pZ, pS]
  refine tkO 2 (.int .u32 (((r.us : Int) + 4) % 4294967296)) (by simp only [gT, gZ, gS]; rfl) (puO (by (intro w hSw; (try dsimp only at hSw); go_simp ; exact e4.out))) ?_
  simp only [Act.put, pA, pZ, pS]
  refine tkO 3 (.agg r.cells) (by simp only [gT, gZ, gS]; rfl) (y_rp w.heap.size r (fun V hV => hV) rfl rfl) ?_
  simp only [Act.put, pA, pZ, pS]
  refine tkO 4 (.pointer (some ⟨w.heap.size, 5, none⟩)) (by simp only [gT, gZ, gS]; rfl) (puO (by (intro w hSw; (try dsimp only at hSw); go_simp))) ?_
  simp only [Act.put, pA, pZ, pS]
  refine tkO 5 (.int .u16 (r.pu : Nat)) (by simp only [gT, gZ, gS]; rfl) (y_rpu w.heap.size r _ (fun V hV => hV) rfl) ?_
  simp only [Act.put, pA, pZ, pS]
  refine skO 6 (by simp only [gT, gZ, gS]; rfl) (fun K hK => ?_)
  rw [if_pos (by rfl)]
  go_simp
  (with_reducible refine (HS.out _).mono ?_)
  rintro e V2 ⟨rfl, hbc⟩
  have hH2 := hide (hHeld.bl hbc)
  replace hM := hM.bl hbc
  replace hW := hW.bl hbc hB
  replace hA := hA.bl hbc
  replace hB := Nat.le_trans hB hbc.size
  replace hS := Nat.le_trans hS hbc.size
  replace hq := hq.bl hbc
  clear hHeld hbc
  go_simp
  refine hK.out _ _ ?_ (fun hHeld => ?_)
  · exact hH2.out
  clear hK K
  clear hH2
  refine tkO 7 (.int .u32 (8 * (sl : Int))) (by simp only [gT, gZ, gS]; rfl) (puO (by (intro w hSw; (try dsimp only at hSw); go_simp ; exact e3.out))) ?_
  simp only [Act.put, pA, pZ, pS]
  refine tkO 8 (.int .u32 (aH : Nat)) (by simp only [gT, gZ, gS]; rfl) (puO (by (intro w hSw; (try dsimp only at hSw); go_simp ; exact e5.out))) ?_
  simp only [Act.put, pA, pZ, pS]
  refine tkO 9 (.int .u32 (aH : Nat)) (by simp only [gT, gZ, gS]; rfl) (puO (by (intro w hSw; (try dsimp only at hSw); go_simp))) ?_
  simp only [Act.put, pA, pZ, pS]
  refine wpAnyH_done (by kernel_rfl) ?_ _
  have hr := hHeld
  clear hHeld
  go_wp2_with (first | (go_at_call 127; (with_reducible refine (HN.out _ _ hM hA).mono ?_); rintro e W ⟨rfl, hbc⟩; replace hM := hM.bl hbc; replace hW := hW.bl hbc hB; replace hA := hA.bl hbc; replace hB := Nat.le_trans hB hbc.size; replace hS := Nat.le_trans hS hbc.size; replace hr := hr.bl hbc; replace hq := hq.bl hbc) | ((with_reducible refine st_rp (w.heap.size + 1) _ zeroRg hq ?_ ?_ ?_); exact rfl; exact rfl; intro W hnew ho; replace hr := hr.only ho (by omega); replace hM := hM.only ho (hF.at 1 (by omega)); replace hA := hA.onlyR ho (by omega); replace hW := hW.only ho (by omega) (by omega); replace hS := (show w.heap.size + 2 ≤ W.heap.size by rw [ho.size]; exact hS); replace hB := (show B ≤ W.heap.size by rw [ho.size]; exact hB); replace hq := hnew; clear hnew ho))
  refine bodyPost_ret (results_cell_u Tryz.results94 _ _ (w.heap.size + 1) _ _ _ rfl hq Tryz.underlying45 rfl size_rp) rfl ?_
  exact ⟨rfl, _, hM, hW⟩
def halfF (r : Rg) (f : Nat → Nat) (h n : Nat) : Nat → Nat := wroteF (wroteF f (plM (usH r)) (numB h 4)) (plM (usN r)) (numB n 4)
set_option maxHeartbeats 2000000 in
theorem give_half (r : Rg) (hr0 : r.Ok) (hc : chkR r = true) {w : World} {B b p c : Nat} {f : Nat → Nat} {O : Nat → Prop} (h : RamB w B b p f c O) (hA : AreasAt w) (hG : 2 < B) (hd n : Nat) (hh : (hd : Int) < r.sz) (hn : n < 4294967296) (h1 : plB p (usH r) 8 = true) (h3 : plB p (usC r) 2 = false) (hcc : c ≤ 900000000) :
    Calls Tryz.prog 94 #[.agg r.cells, .pointer (some ⟨b, 0, none⟩), .int .i64 (hd : Nat), .int .u32 (n : Nat)] w fun e w' => e = .returned (.tuple #[.agg zeroRg.cells, .iface 129 (.int .i64 22)]) ∧ ∃ O', RamB w' B b p (halfF r f hd n) (c + 1 + 1) O' ∧ Went B O O' w w' := by
  unfold halfF
  have hB0 := h.base
  have hGw : 2 < w.heap.size := Nat.lt_of_lt_of_le hG hB0
  have hA0 := hA
  clear hA
  obtain ⟨k, hk, hk0, hk1⟩ := chkR_sz hc
  obtain ⟨al1, al2, al3⟩ := chkR_al hc
  have HC : Hid (∀ W, Calls Tryz.prog 65 #[.agg r.cells, .pointer (some ⟨b, 0, none⟩)] W fun e w' => e = .returned .nilIface ∧ Below W.heap.size W w') := hide (fun W => by have := rcheckw_any r hr0 b W; rw [hc] at this; exact this)
  have hpu := hr0.pu
  have hus := hr0.us
  have hfew := h.few
  obtain ⟨q1, q2, q3⟩ := usN_in hfew h1
  have hdl : hd < 256 := by omega
  have hsl := slotN_lt hc r.pu
  have b1 : usH r < 4294967296 ∧ usN r < 4294967296 ∧ usC r < 4294967296 := ⟨Nat.mod_lt _ (by decide), Nat.mod_lt _ (by decide), Nat.mod_lt _ (by decide)⟩
  have b2 : usH r % 4 = 0 ∧ usN r % 4 = 0 ∧ usC r % 2 = 0 := by unfold usN usC usH t32; omega
  have HH : Hid (∀ W, Calls Tryz.prog 126 #[.agg r.cells, .int .i64 (hd : Nat)] W fun e w' => e = .returned (.bool true) ∧ Below W.heap.size W w') := hide (fun W => by have := ishead_any r (hd : Int) W; rwa [decide_eq_true (by omega)] at this)
  have HS : Hid (∀ W, Calls Tryz.prog 67 #[.agg r.cells, .int .u16 (r.pu : Nat)] W fun e w' => e = .returned (.int .u32 (slotN r r.pu : Nat)) ∧ Below W.heap.size W w') := hide (fun W => slot_any r hc r.pu hpu W)
  have HN : Hid (∀ W O1, RamB W B b p f c O1 → AreasAt W → Calls Tryz.prog 127 #[.pointer (some ⟨b, 0, none⟩), .int .u32 (usH r : Nat), .int .u64 8] W fun e w' => e = .returned (.bool true) ∧ Below W.heap.size W w') := hide (fun W O1 hM hA => by have := isin_b hM hA (usH r) 8 b1.1 (by decide); rwa [h1] at this)
  have H1 : Hid (∀ W O1, RamB W B b p (f) (c) O1 → AreasAt W → Calls Tryz.prog 128 #[.pointer (some ⟨b, 0, none⟩), .int .u32 (usH r : Nat), .int .i64 4, .int .u32 (hd : Nat)] W fun e w' => e = .returned .nilIface ∧ ∃ O', RamB w' B b p (wroteF f (plM (usH r)) (numB hd 4)) (c + 1) O' ∧ Went B O1 O' W w') := hide (fun W O1 hM hA => rstore_yes hM hA hG (usH r) 4 b1.1 (by decide) b2.1 q3 hd (by omega) (by omega))
  have H2 : Hid (∀ W O1, RamB W B b p (wroteF f (plM (usH r)) (numB hd 4)) (c + 1) O1 → AreasAt W → Calls Tryz.prog 128 #[.pointer (some ⟨b, 0, none⟩), .int .u32 (usN r : Nat), .int .i64 4, .int .u32 (n : Nat)] W fun e w' => e = .returned .nilIface ∧ ∃ O', RamB w' B b p (wroteF (wroteF f (plM (usH r)) (numB hd 4)) (plM (usN r)) (numB n 4)) (c + 1 + 1) O' ∧ Went B O1 O' W w') := hide (fun W O1 hM hA => rstore_yes hM hA hG (usN r) 4 b1.2.1 (by decide) b2.2.1 q2 n hn (by omega))
  have H3 : Hid (∀ W O1, RamB W B b p (wroteF (wroteF f (plM (usH r)) (numB hd 4)) (plM (usN r)) (numB n 4)) (c + 1 + 1) O1 → AreasAt W → Calls Tryz.prog 128 #[.pointer (some ⟨b, 0, none⟩), .int .u32 (usC r : Nat), .int .i64 2, .int .u32 ((r.pu + 1) % 65536 : Nat)] W fun e w' => e = .returned (.iface 129 (.int .i64 22)) ∧ ∃ O', RamB w' B b p (wroteF (wroteF f (plM (usH r)) (numB hd 4)) (plM (usN r)) (numB n 4)) (c + 1 + 1) O' ∧ Went B O1 O' W w') := hide (fun W O1 hM hA => rstore_no hM hA hG (usC r) 2 b1.2.2 (by decide) b2.2.2 h3 _ (by omega))
  have e1 : ((r.us : Int) + 2) % 4294967296 = ((usC r : Nat) : Int) := by unfold usC t32; omega
  have e2 : (((r.us : Int) + 4) % 4294967296 + (8 * ((slotN r r.pu : Nat) : Int))) % 4294967296 = ((usH r : Nat) : Int) := by unfold usH t32; omega
  have en : ((usH r : Int) + 4) % 4294967296 = ((usN r : Nat) : Int) := by unfold usN t32; omega
  have en2 : IntKind.u32.wrap ((usH r : Int) + 4) = ((usN r : Nat) : Int) := by rw [IntKind.wrap_u32]; exact en
  generalize wroteF (wroteF f (plM (usH r)) (numB hd 4)) (plM (usN r)) (numB n 4) = f2 at *
  generalize wroteF f (plM (usH r)) (numB hd 4) = f1 at *
  generalize usC r = aC at *
  generalize usN r = aN at *
  generalize usH r = aH at *
  generalize slotN r r.pu = sl at *
  have e3 : Hid (IntKind.u32.wrap (8 * (sl : Int)) = 8 * (sl : Int)) := hide (by rw [IntKind.wrap_u32]; omega)
  have e4 : Hid (IntKind.u32.wrap ((r.us : Int) + 4) = ((r.us : Int) + 4) % 4294967296) := hide (by rw [IntKind.wrap_u32])
  have e5 : Hid (IntKind.u32.wrap (((r.us : Int) + 4) % 4294967296 + (8 * ((sl : Nat) : Int))) = (aH : Int)) := hide (by rw [IntKind.wrap_u32]; exact e2)
  obtain ⟨pn, hpn⟩ : ∃ x, (r.pu + 1) % 65536 = x := ⟨_, rfl⟩
  have e6 : Hid (((r.pu : Int) + 1) % 65536 = (pn : Int)) := hide (by omega)
  have hpl : pn < 65536 := by omega
  have htr : ({ r with pu := pn } : Rg) = givenR r := by unfold givenR; rw [hpn]
  rw [hpn] at H3
  have hgp : (givenR r).pu = pn := hpn
  have hgu : (givenR r).us = r.us := rfl
  clear hk hr0 hc al1 al2 al3 h1 h3 q1 q2 q3 b1 b2 e2 hh hcc hpn
  go_enter Tryz.func94, Tryz.ntmps94
  go_wp2_with (first | ((with_reducible refine bx_rp w.heap.size r ?_ ?_ ?_); exact rfl; exact rfl; intro W hr hb hz) | ((with_reducible refine al_rp (w.heap.size + 1) ?_ ?_); exact hz.out; intro W hq hb' hz'; replace hr := hr.bl (hz.out ▸ hb'); replace hb := hb.trans (hb'.mono (by omega)); replace hz := hz'; have hM := h.bl hb; have hW := Went.of (O := O) hb hB0; have hA := hA0.bl hb; have hF := h.far 2; have hS : w.heap.size + 2 ≤ W.heap.size := Nat.le_of_eq hz.out.symm; have hB : B ≤ W.heap.size := Nat.le_trans hB0 hb.size; clear hb hz hb' hz') | ((with_reducible refine ld_rp w.heap.size _ hr ?_ ?_ ?_); exact rfl; exact rfl) | (go_at_call 65; (with_reducible refine (HC.out _).mono ?_); rintro e W ⟨rfl, hbc⟩; replace hM := hM.bl hbc; replace hW := hW.bl hbc hB; replace hA := hA.bl hbc; replace hB := Nat.le_trans hB hbc.size; replace hS := Nat.le_trans hS hbc.size; replace hr := hr.bl hbc; replace hq := hq.bl hbc) | (go_at_call 126; (with_reducible refine (HH.out _).mono ?_); rintro e W ⟨rfl, hbc⟩; replace hM := hM.bl hbc; replace hW := hW.bl hbc hB; replace hA := hA.bl hbc; replace hB := Nat.le_trans hB hbc.size; replace hS := Nat.le_trans hS hbc.size; replace hr := hr.bl hbc; replace hq := hq.bl hbc))
  refine wp_region_held_drew (S := (fun V => RowAt V w.heap.size r.cells 45)) (by kernel_rfl) ?_ (fun hHeld => ?_)
  · exact hr.dr
  replace hM := hM.dr
  replace hW := hW.dr
  replace hA := hA.drR
  replace hS : w.heap.size + 2 ≤ (World.drew _).heap.size := hS
  replace hB : B ≤ (World.drew _).heap.size := hB
  replace hq := hq.dr
  generalize World.drew _ = V at hHeld hM hW hA hS hB hq ⊢
  clear hr
  refine tkO 0 (.pointer (some ⟨w.heap.size, 3, none⟩)) (by simp only [gT, gZ]; rfl) (puO (by (intro w hSw; (try dsimp only at hSw); go_simp))) ?_
  simp only [Act.put, pA, pZ, pS]
  refine tkO 1 (.int .u32 (r.us : Nat)) (by simp only [gT, gZ, gS]; rfl) (y_rus w.heap.size r _ (fun V hV => hV) rfl) ?_
  simp only [Act.put, pA, pZ, pS]
  refine tkO 2 (.int .u32 (((r.us : Int) + 4) % 4294967296)) (by simp only [gT, gZ, gS]; rfl) (puO (by (intro w hSw; (try dsimp only at hSw); go_simp ; exact e4.out))) ?_
  simp only [Act.put, pA, pZ, pS]
  refine tkO 3 (.agg r.cells) (by simp only [gT, gZ, gS]; rfl) (y_rp w.heap.size r (fun V hV => hV) rfl rfl) ?_
  simp only [Act.put, pA, pZ, pS]
  refine tkO 4 (.pointer (some ⟨w.heap.size, 5, none⟩)) (by simp only [gT, gZ, gS]; rfl) (puO (by (intro w hSw; (try dsimp only at hSw); go_simp))) ?_
  simp only [Act.put, pA, pZ, pS]
  refine tkO 5 (.int .u16 (r.pu : Nat)) (by simp only [gT, gZ, gS]; rfl) (y_rpu w.heap.size r _ (fun V hV => hV) rfl) ?_
  simp only [Act.put, pA, pZ, pS]
  refine skO 6 (by simp only [gT, gZ, gS]; rfl) (fun K hK => ?_)
  rw [if_pos (by rfl)]
  go_simp
  (with_reducible refine (HS.out _).mono ?_)
  rintro e V2 ⟨rfl, hbc⟩
  have hH2 := hide (hHeld.bl hbc)
  replace hM := hM.bl hbc
  replace hW := hW.bl hbc hB
  replace hA := hA.bl hbc
  replace hB := Nat.le_trans hB hbc.size
  replace hS := Nat.le_trans hS hbc.size
  replace hq := hq.bl hbc
  clear hHeld hbc
  go_simp
  refine hK.out _ _ ?_ (fun hHeld => ?_)
  · exact hH2.out
  clear hK K
  clear hH2
  refine tkO 7 (.int .u32 (8 * (sl : Int))) (by simp only [gT, gZ, gS]; rfl) (puO (by (intro w hSw; (try dsimp only at hSw); go_simp ; exact e3.out))) ?_
  simp only [Act.put, pA, pZ, pS]
  refine tkO 8 (.int .u32 (aH : Nat)) (by simp only [gT, gZ, gS]; rfl) (puO (by (intro w hSw; (try dsimp only at hSw); go_simp ; exact e5.out))) ?_
  simp only [Act.put, pA, pZ, pS]
  refine tkO 9 (.int .u32 (aH : Nat)) (by simp only [gT, gZ, gS]; rfl) (puO (by (intro w hSw; (try dsimp only at hSw); go_simp))) ?_
  simp only [Act.put, pA, pZ, pS]
  refine wpAnyH_done (by kernel_rfl) ?_ _
  have hr := hHeld
  clear hHeld
  go_wp2_with (first | (go_at_call 127; (with_reducible refine (HN.out _ _ hM hA).mono ?_); rintro e W ⟨rfl, hbc⟩; replace hM := hM.bl hbc; replace hW := hW.bl hbc hB; replace hA := hA.bl hbc; replace hB := Nat.le_trans hB hbc.size; replace hS := Nat.le_trans hS hbc.size; replace hr := hr.bl hbc; replace hq := hq.bl hbc) | (go_at_call 128; (with_reducible refine (H1.out _ _ hM hA).mono ?_); rintro e W2 ⟨rfl, O2, hM2, hW2⟩; replace hr := hW2.row hr (hF.at 0 (by omega)); replace hq := hW2.row hq (hF.at 1 (by omega)); replace hA := hA.wentR hG hW2; replace hF := hF.went hW2 hS; replace hS := Nat.le_trans hS hW2.size; replace hW := hW.trans hW2; replace hB := Nat.le_trans hB hW2.size; replace hM := hM2; clear hM2 hW2) | (go_at_call 128; (with_reducible refine (H2.out _ _ hM hA).mono ?_); rintro e W2 ⟨rfl, O2, hM2, hW2⟩; replace hr := hW2.row hr (hF.at 0 (by omega)); replace hq := hW2.row hq (hF.at 1 (by omega)); replace hA := hA.wentR hG hW2; replace hF := hF.went hW2 hS; replace hS := Nat.le_trans hS hW2.size; replace hW := hW.trans hW2; replace hB := Nat.le_trans hB hW2.size; replace hM := hM2; clear hM2 hW2) | (go_at_call 128; (with_reducible refine (H3.out _ _ hM hA).mono ?_); rintro e W2 ⟨rfl, O2, hM2, hW2⟩; replace hr := hW2.row hr (hF.at 0 (by omega)); replace hq := hW2.row hq (hF.at 1 (by omega)); replace hA := hA.wentR hG hW2; replace hF := hF.went hW2 hS; replace hS := Nat.le_trans hS hW2.size; replace hW := hW.trans hW2; replace hB := Nat.le_trans hB hW2.size; replace hM := hM2; clear hM2 hW2) | ((with_reducible refine ld_rus w.heap.size _ _ hr ?_ ?_ ?_); exact rfl; exact rfl) | ((with_reducible refine ld_rpu w.heap.size _ _ hr ?_ ?_ ?_); exact rfl; exact rfl) | ((with_reducible refine st_rpu w.heap.size _ pn _ hr ?_ ?_ ?_); exact rfl; (exact congrArg _ e6.out); intro W hnew ho; rw [htr] at hnew; replace hq := hq.only ho (by omega); replace hM := hM.only ho (hF.at 0 (by omega)); replace hA := hA.onlyR ho (by omega); replace hW := hW.only ho (by omega) (by omega); replace hS := (show w.heap.size + 2 ≤ W.heap.size by rw [ho.size]; exact hS); replace hB := (show B ≤ W.heap.size by rw [ho.size]; exact hB); replace hr := hnew; clear hnew ho) | ((with_reducible refine st_rp (w.heap.size + 1) _ zeroRg hq ?_ ?_ ?_); exact rfl; exact rfl; intro W hnew ho; replace hr := hr.only ho (by omega); replace hM := hM.only ho (hF.at 1 (by omega)); replace hA := hA.onlyR ho (by omega); replace hW := hW.only ho (by omega) (by omega); replace hS := (show w.heap.size + 2 ≤ W.heap.size by rw [ho.size]; exact hS); replace hB := (show B ≤ W.heap.size by rw [ho.size]; exact hB); replace hq := hnew; clear hnew ho))
  refine bodyPost_ret (results_cell_u Tryz.results94 _ _ (w.heap.size + 1) _ _ _ rfl hq Tryz.underlying45 rfl size_rp) rfl ?_
  exact ⟨rfl, _, hM, hW⟩
/-- What Give makes: the bytes, and the ring, if all of it could be stored. -/
def giveV (p : Nat) (f : Nat → Nat) (r : Rg) (hd : Int) (n : Nat) : (Nat → Nat) × Option Rg :=
  if chkR r = true then
    (if 0 ≤ hd ∧ hd < r.sz then
      (if plB p (usH r) 8 = true then
        (if plB p (usC r) 2 = true then (giveF r f hd.toNat n, some (givenR r)) else (halfF r f hd.toNat n, none))
       else (f, none))
     else (f, none))
  else (f, none)
/-- What Give answers. -/
structure GaveE (o : Option Rg) (e : Ending) : Prop where
  ex : (∃ r, o = some r ∧ e = .returned (.tuple #[.agg r.cells, .nilIface])) ∨ (o = none ∧ ∃ k : Int, e = .returned (.tuple #[.agg zeroRg.cells, .iface 129 (.int .i64 k)]))
theorem give_any (r : Rg) (hr0 : r.Ok) {w : World} {B b p c : Nat} {f : Nat → Nat} {O : Nat → Prop} (h : RamB w B b p f c O) (hA : AreasAt w) (hG : 2 < B) (hd : Int) (n : Nat) (hn : n < 4294967296) (hcc : c ≤ 900000000) :
    Calls Tryz.prog 94 #[.agg r.cells, .pointer (some ⟨b, 0, none⟩), .int .i64 hd, .int .u32 (n : Nat)] w fun e w' => GaveE (giveV p f r hd n).2 e ∧ ∃ O', RamB w' B b p (giveV p f r hd n).1 (c + 1 + 1 + 1) O' ∧ Went B O O' w w' := by
  unfold giveV
  by_cases hc : chkR r = true
  · rw [if_pos hc]
    by_cases hh : 0 ≤ hd ∧ hd < r.sz
    · rw [if_pos hh]
      obtain ⟨d, rfl⟩ := Int.eq_ofNat_of_zero_le hh.1
      rw [Int.toNat_natCast]
      by_cases h1 : plB p (usH r) 8 = true
      · rw [if_pos h1]
        by_cases h3 : plB p (usC r) 2 = true
        · rw [if_pos h3]
          refine (give_ok r hr0 hc h hA hG d n hh.2 hn h1 h3 hcc).mono ?_
          rintro e w' ⟨rfl, hM⟩
          exact ⟨⟨.inl ⟨_, rfl, rfl⟩⟩, hM⟩
        · rw [if_neg h3]
          refine (give_half r hr0 hc h hA hG d n hh.2 hn h1 (by simpa using h3) hcc).mono ?_
          rintro e w' ⟨rfl, O', hM, hW⟩
          exact ⟨⟨.inr ⟨rfl, _, rfl⟩⟩, O', hM.more (by omega), hW⟩
      · rw [if_neg h1]
        refine (give_out r hr0 hc h hA hG d n hh.2 hn (by simpa using h1)).mono ?_
        rintro e w' ⟨rfl, O', hM, hW⟩
        exact ⟨⟨.inr ⟨rfl, _, rfl⟩⟩, O', hM.more (by omega), hW⟩
    · rw [if_neg hh]
      refine (give_hd r hr0 hc b hd n hh w).mono ?_
      rintro e w' ⟨rfl, hb⟩
      exact ⟨⟨.inr ⟨rfl, _, rfl⟩⟩, O, (h.bl hb).more (by omega), Went.of hb h.base⟩
  · rw [if_neg hc]
    refine (give_bad r hr0 (by simpa using hc) b hd n w).mono ?_
    rintro e w' ⟨rfl, hb⟩
    exact ⟨⟨.inr ⟨rfl, _, rfl⟩⟩, O, (h.bl hb).more (by omega), Went.of hb h.base⟩
end Go.Proofs.YtaaiockiojejeaaGreatDoor
namespace Go.Proofs.YtaaiockiojejeaaGreatDoor
open Go.RowKit
set_option linter.unusedVariables false

/-- Where the first request of an ID is; -1: nowhere. -/
def idxQ (l : List Rq) (id : Nat) : Int := match l.findIdx? (fun q => q.id == id) with
  | some k => (k : Int)
  | none => -1
theorem idxQ_neg {l : List Rq} {id : Nat} : idxQ l id < 0 ↔ ∀ q ∈ l, q.id ≠ id := by
  unfold idxQ
  cases h1 : l.findIdx? (fun q => q.id == id) with
  | none =>
    rw [List.findIdx?_eq_none_iff] at h1
    simp only [show ((-1 : Int) < 0) = True by simp, true_iff]
    intro q hq e
    have := h1 q hq
    simp [e] at this
  | some k =>
    simp only [show (((k : Nat) : Int) < 0) = False by simp, false_iff]
    intro hq
    obtain ⟨hk, h2, _⟩ := List.findIdx?_eq_some_iff_getElem.1 h1
    exact hq _ (List.getElem_mem hk) (by simpa using h2)
theorem idxQ_pos {l : List Rq} {id : Nat} (h : 0 ≤ idxQ l id) : ∃ k q, idxQ l id = (k : Nat) ∧ l[k]? = some q ∧ q.id = id := by
  unfold idxQ at *
  cases h1 : l.findIdx? (fun q => q.id == id) with
  | none => rw [h1] at h; simp at h
  | some k =>
    obtain ⟨hk, h2, _⟩ := List.findIdx?_eq_some_iff_getElem.1 h1
    exact ⟨k, l[k], rfl, List.getElem?_eq_getElem hk, by simpa using h2⟩
/-- The next number that none has, looked for k times. -/
def nxtV (l : List Rq) : Nat → Nat → Nat
  | 0, n => n
  | k + 1, n => if idxQ l n < 0 then n else nxtV l k ((n + 1) % 4294967296)
theorem many_le : ∀ (xs l : List Nat), xs.Nodup → (∀ x ∈ xs, x ∈ l) → xs.length ≤ l.length
  | [], l, _, _ => Nat.zero_le _
  | x :: t, l, hn, hm => by
    have hx := hm x (List.mem_cons_self ..)
    obtain ⟨h1, h2⟩ := List.nodup_cons.1 hn
    have := many_le t (l.erase x) h2 (fun y hy => (List.mem_erase_of_ne (show y ≠ x from fun e => h1 (by rw [← e]; exact hy))).2 (hm y (List.mem_cons_of_mem _ hy)))
    rw [List.length_erase_of_mem hx] at this
    have : 0 < l.length := List.length_pos_of_mem hx
    simp only [List.length_cons]
    omega
/-- Among so many numbers behind one another one is free. -/
theorem free_at (l : List Rq) (n : Nat) (hl : l.length < 4294967296) : ∃ k, k ≤ l.length ∧ idxQ l ((n + k) % 4294967296) < 0 ∧ ∀ j, j < k → ¬ idxQ l ((n + j) % 4294967296) < 0 := by
  have hex : ∃ k, k ≤ l.length ∧ idxQ l ((n + k) % 4294967296) < 0 := by
    apply Classical.byContradiction
    intro hno
    have hall : ∀ k, k ≤ l.length → (n + k) % 4294967296 ∈ l.map (·.id) := fun k hk => by
      have : ¬ idxQ l ((n + k) % 4294967296) < 0 := fun e => hno ⟨k, hk, e⟩
      obtain ⟨j, q, _, h1, h2⟩ := idxQ_pos (Int.not_lt.1 this)
      exact List.mem_map.2 ⟨q, List.mem_of_getElem? h1, h2⟩
    have := many_le ((List.range (l.length + 1)).map (fun k => (n + k) % 4294967296)) (l.map (·.id)) (by
      refine List.Pairwise.map _ (R := fun a b => a ≠ b ∧ a < l.length + 1 ∧ b < l.length + 1) (fun a b h => by omega) ?_
      refine List.Pairwise.imp_of_mem ?_ List.nodup_range
      intro a b ha hb hab
      exact ⟨hab, List.mem_range.1 ha, List.mem_range.1 hb⟩) (fun x hx => by
      obtain ⟨k, hk, rfl⟩ := List.mem_map.1 hx
      exact hall k (by have := List.mem_range.1 hk; omega))
    simp at this
    omega
  obtain ⟨k, hk, hf⟩ := hex
  induction k using Nat.strongRecOn with
  | ind k ih =>
    by_cases h : ∃ j, j < k ∧ idxQ l ((n + j) % 4294967296) < 0
    · obtain ⟨j, h1, h2⟩ := h
      exact ih j h1 (by omega) h2
    · exact ⟨k, hk, hf, fun j hj e => h ⟨j, hj, e⟩⟩
theorem nxtV_at (l : List Rq) : ∀ (k m n : Nat), n < 4294967296 → k ≤ m → idxQ l ((n + k) % 4294967296) < 0 → (∀ j, j < k → ¬ idxQ l ((n + j) % 4294967296) < 0) → nxtV l (m + 1) n = (n + k) % 4294967296
  | 0, m, n, hn, _, hf, _ => by
    rw [Nat.add_zero, Nat.mod_eq_of_lt hn] at hf
    rw [Nat.add_zero n, Nat.mod_eq_of_lt hn, nxtV, if_pos hf]
  | k + 1, m, n, hn, hm, hf, hj => by
    have h0 := hj 0 (by omega)
    rw [Nat.add_zero, Nat.mod_eq_of_lt hn] at h0
    obtain ⟨m, rfl⟩ : ∃ q, m = q + 1 := ⟨m - 1, by omega⟩
    rw [nxtV, if_neg h0, nxtV_at l k m ((n + 1) % 4294967296) (Nat.mod_lt _ (by decide)) (by omega) (by rw [show ((n + 1) % 4294967296 + k) % 4294967296 = (n + (k + 1)) % 4294967296 by omega]; exact hf) (fun j hk => by
      rw [show ((n + 1) % 4294967296 + j) % 4294967296 = (n + (j + 1)) % 4294967296 by omega]; exact hj (j + 1) (by omega))]
    omega
/-- Bytes as a number, the lowest first. -/
def nmL : List Nat → Nat
  | [] => 0
  | x :: t => x + 256 * nmL t
/-- What the first n bytes stand in: parts that are cut. -/
def firL : Int → List Sg → List Sg
  | _, [] => []
  | n, s :: t => { s with n := if s.n ≤ n then s.n else n } :: firL (n - if s.n ≤ n then s.n else n) t
def isDat (n : Int) : Bool := decide (0 < n) && decide (n % 512 = 0)
def isWit (sc se n : Nat) : Bool := decide (se ≤ sc) && decide (n / 512 ≤ sc - se)
/-- A chain that was looked at. -/
structure Ch where
  hd : Int
  kd : Nat
  se : Nat
  ps : List Sg
  rd : Int
  wr : Int
def Ch.mov (c : Ch) : Bool := decide (c.kd = 0) || decide (c.kd = 1)
def Ch.dat (c : Ch) : Int := if c.kd = 1 then c.rd - 16 else c.wr - 1
def Ch.fit (c : Ch) : Bool := (!decide (c.kd = 0) || decide (c.rd = 16)) && isDat c.dat
def maxI : Int := 9223372036854775807
/-- The bytes of a head. -/
def hedF (f : Nat → Nat) (ps : List Sg) : List Nat := gathF f (partsV false maxI (firL 16 ps))
def chOf (f : Nat → Nat) (hd : Int) (ps : List Sg) : Ch := ⟨hd, nmL ((hedF f ps).take 4), nmL (((hedF f ps).drop 8).take 8), ps, roomV false 0 ps, roomV true 0 ps⟩
def lookV (p : Nat) (f : Nat → Nat) (r : Rg) (hd : Int) : Option Ch :=
  match walkV p f r hd with
  | none => none
  | some ps => if (decide (16 ≤ (hedF f ps).length) && (decide (1 ≤ roomV true 0 ps) && (!(chOf f hd ps).mov || (chOf f hd ps).fit))) = true then some (chOf f hd ps) else none
/-- The last byte that is written, as parts. -/
def lasB : List Sg → List Sg
  | [] => []
  | s :: t => if (t.any fun s => s.wr && decide (0 < s.n)) = true then lasB t
      else if (s.wr && decide (0 < s.n)) = true then (if (s.at' : Int) + s.n - 1 ≤ 4294967295 then [⟨(s.at' + s.n.toNat - 1), 1, true⟩] else []) else []
def Bk.fail (s : Bk) : Bk := { s with p := failV s.p }
def Bk.ring (s : Bk) (r : Rg) : Bk := { s with p := s.p.q0w (s.p.q0.rw' r) }
def Bk.used (s : Bk) : Bk := { s with p := usedV s.p }
/-- An answer: the bytes of memory, and the state. -/
def ansV (p : Nat) (f : Nat → Nat) (s : Bk) (hd : Int) (l : List Sg) (b : List Nat) : (Nat → Nat) × Bk :=
  if scatE p l b.length = 0 then
    (match (giveV p (scatF f (partsV true b.length l) b) s.p.q0.r hd b.length).2 with
     | some r => ((giveV p (scatF f (partsV true b.length l) b) s.p.q0.r hd b.length).1, (s.ring r).used)
     | none => ((giveV p (scatF f (partsV true b.length l) b) s.p.q0.r hd b.length).1, s.fail))
  else (f, s.fail)
def telV (p : Nat) (f : Nat → Nat) (s : Bk) (hd : Int) (l : List Sg) (st : Nat) : (Nat → Nat) × Bk := ansV p f s hd (lasB l) [st]
/-- The parts that are written. -/
def wriL (l : List Sg) : List Sg := l.filter fun s => s.wr
def reqV (s : Bk) (c : Ch) : Rq := ⟨s.nx, c.hd, decide (c.kd = 1), c.se % 4294967296, c.dat, wriL c.ps⟩
/-- A request that waits for the disk, and what that is asked for. -/
def entV (f : Nat → Nat) (s : Bk) (c : Ch) : Bk × Ak :=
  ({ s with l := s.l ++ [reqV s c], nx := nxtV (s.l ++ [reqV s c]) (s.l.length + 2) s.nx },
   ⟨s.nx, decide (c.kd = 1), c.se % 4294967296, c.dat, if c.kd = 1 then (gathF f (partsV false maxI c.ps)).drop 16 else []⟩)
def srvV (p : Nat) (f : Nat → Nat) (s : Bk) (c : Ch) : (Nat → Nat) × Bk × List Ak :=
  if c.kd = 4 then ((telV p f s c.hd c.ps 0).1, (telV p f s c.hd c.ps 0).2, [])
  else if c.mov = true then
    (if isWit s.sc c.se c.dat.toNat = true then (f, (entV f s c).1, [(entV f s c).2]) else ((telV p f s c.hd c.ps 1).1, (telV p f s c.hd c.ps 1).2, []))
  else ((telV p f s c.hd c.ps 2).1, (telV p f s c.hd c.ps 2).2, [])
/-- Bytes of memory, a disk, what was asked for. -/
structure X3 where
  f : Nat → Nat
  s : Bk
  a : List Ak
/-- One chain: does it go on? -/
def stpV (p : Nat) (x : X3) : Bool × X3 :=
  if (nextV p x.f x.s.p.q0.r).2.2.2 = 0 then
    (if (nextV p x.f x.s.p.q0.r).2.2.1 = true then
      (match lookV p x.f (nextV p x.f x.s.p.q0.r).1 ((nextV p x.f x.s.p.q0.r).2.1 : Nat) with
       | none => (false, { x with s := x.s.fail })
       | some c => (true, ⟨(srvV p x.f (x.s.ring (nextV p x.f x.s.p.q0.r).1) c).1, (srvV p x.f (x.s.ring (nextV p x.f x.s.p.q0.r).1) c).2.1, x.a ++ (srvV p x.f (x.s.ring (nextV p x.f x.s.p.q0.r).1) c).2.2⟩))
     else (false, { x with s := { x.s with be := false } }))
  else (false, { x with s := x.s.fail })
def polN (p : Nat) : Nat → X3 → X3
  | 0, x => x
  | k + 1, x => if x.s.l.length < 8 then (if (stpV p x).1 = true then polN p k (stpV p x).2 else (stpV p x).2) else x
def polV (p : Nat) (f : Nat → Nat) (s : Bk) : X3 := if (s.be && (liveV s.p && s.p.q0.rd)) = true then polN p 65536 ⟨f, s, []⟩ else ⟨f, s, []⟩
end Go.Proofs.YtaaiockiojejeaaGreatDoor
