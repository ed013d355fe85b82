/-
  Registers of a net device, plain.
-/
import Derived.Test.YtbggkoahofnnjaaGreatDoorJR25
import Derived.Test.YtbggkoahofnnjaaGreatDoorJR26
open Go.Proofs.Tryz
set_option linter.unusedVariables false
set_option linter.unusedSimpArgs false
namespace Go.Proofs.YtbggkoahofnnjaaGreatDoor
open Go.RowKit
set_option maxHeartbeats 2000000
attribute [local go_sem] Rg.at0 Rg.at1 Rg.at2 Rg.at3 Rg.at4 Rg.at5
theorem give_bad (r : Rg) (hr0 : r.Ok) (hc : chkR r = false) (b : Nat) (hd : Int) (n : Nat) (w : World) : Calls prog 84 #[.agg r.cells, .pointer (some ⟨b, 0, none⟩), .int .i64 hd, .int .u32 (n : Nat)] w fun e w' => e = .returned (.tuple #[.agg zeroRg.cells, .iface 82 (.int .i64 1)]) ∧ Below w.heap.size w w' := by
  have HC : Hid (∀ W, Calls prog 105 #[.agg r.cells, .pointer (some ⟨b, 0, none⟩)] W fun e w' => e = .returned (.iface 82 (.int .i64 1)) ∧ Below W.heap.size W w') := hide (fun W => by have := rcheckw_any r hr0 b W; rw [hc] at this; exact this)
  clear hc hr0
  go_enter func84, ntmps84
  go_wp2_with (first | ((with_reducible refine bx_rp w.heap.size r ?_ ?_ ?_); exact rfl; exact rfl; intro W hr hb hz) | ((with_reducible refine al_rp (w.heap.size + 1) ?_ ?_); exact hz.out; intro W hq hb' hz'; replace hr := hr.bl (hz.out ▸ hb'); replace hb := hb.trans (hb'.mono (by omega)); replace hz := hz') | ((with_reducible refine ld_rp w.heap.size _ hr ?_ ?_ ?_); exact rfl; exact rfl) | (go_at_call 105; (with_reducible refine (HC.out _).mono ?_); rintro e W ⟨rfl, hbc⟩; replace hr := hr.bl hbc; replace hq := hq.bl hbc; replace hb := below_bl rfl hb hbc) | ((with_reducible refine st_rp (w.heap.size + 1) _ zeroRg hq ?_ ?_ ?_); exact rfl; exact rfl; intro W hnew ho; replace hr := hr.only ho (by omega); replace hq := hnew; replace hb := ho.bel _ _ (by omega) hb))
  refine bodyPost_ret (results_cell_u results84 _ _ (w.heap.size + 1) _ _ _ rfl hq underlying34 rfl size_rp) rfl ?_
  exact ⟨rfl, hb⟩
theorem give_hd (r : Rg) (hr0 : r.Ok) (hc : chkR r = true) (b : Nat) (hd : Int) (n : Nat) (hh : ¬ (0 ≤ hd ∧ hd < r.sz)) (w : World) : Calls prog 84 #[.agg r.cells, .pointer (some ⟨b, 0, none⟩), .int .i64 hd, .int .u32 (n : Nat)] w fun e w' => e = .returned (.tuple #[.agg zeroRg.cells, .iface 82 (.int .i64 22)]) ∧ Below w.heap.size w w' := by
  have HC : Hid (∀ W, Calls prog 105 #[.agg r.cells, .pointer (some ⟨b, 0, none⟩)] W fun e w' => e = .returned (.nilIface) ∧ Below W.heap.size W w') := hide (fun W => by have := rcheckw_any r hr0 b W; rw [hc] at this; exact this)
  have HH : Hid (∀ W, Calls prog 114 #[.agg r.cells, .int .i64 hd] W fun e w' => e = .returned (.bool false) ∧ Below W.heap.size W w') := hide (fun W => by have := ishead_any r hd W; rwa [decide_eq_false hh] at this)
  clear hc hr0 hh
  go_enter func84, ntmps84
  go_wp2_with (first | ((with_reducible refine bx_rp w.heap.size r ?_ ?_ ?_); exact rfl; exact rfl; intro W hr hb hz) | ((with_reducible refine al_rp (w.heap.size + 1) ?_ ?_); exact hz.out; intro W hq hb' hz'; replace hr := hr.bl (hz.out ▸ hb'); replace hb := hb.trans (hb'.mono (by omega)); replace hz := hz') | ((with_reducible refine ld_rp w.heap.size _ hr ?_ ?_ ?_); exact rfl; exact rfl) | (go_at_call 105; (with_reducible refine (HC.out _).mono ?_); rintro e W ⟨rfl, hbc⟩; replace hr := hr.bl hbc; replace hq := hq.bl hbc; replace hb := below_bl rfl hb hbc) | (go_at_call 114; (with_reducible refine (HH.out _).mono ?_); rintro e W ⟨rfl, hbc⟩; replace hr := hr.bl hbc; replace hq := hq.bl hbc; replace hb := below_bl rfl hb hbc) | ((with_reducible refine st_rp (w.heap.size + 1) _ zeroRg hq ?_ ?_ ?_); exact rfl; exact rfl; intro W hnew ho; replace hr := hr.only ho (by omega); replace hq := hnew; replace hb := ho.bel _ _ (by omega) hb))
  refine bodyPost_ret (results_cell_u results84 _ _ (w.heap.size + 1) _ _ _ rfl hq underlying34 rfl size_rp) rfl ?_
  exact ⟨rfl, hb⟩
theorem give_out (r : Rg) (hr0 : r.Ok) (hc : chkR r = true) {w : World} {B b p c : Nat} {f : Nat → Nat} {O : Nat → Prop} (h : RamB w B b p f c O) (hA : AreasAt w) (hG : 2 < B) (hd n : Nat) (hh : (hd : Int) < r.sz) (hn : n < 4294967296) (h1 : plB p (usH r) 8 = false) :
    Calls prog 84 #[.agg r.cells, .pointer (some ⟨b, 0, none⟩), .int .i64 (hd : Nat), .int .u32 (n : Nat)] w fun e w' => e = .returned (.tuple #[.agg zeroRg.cells, .iface 82 (.int .i64 22)]) ∧ ∃ O', RamB w' B b p f c O' ∧ Went B O O' w w' := by
  have hB0 := h.base
  have hGw : 2 < w.heap.size := Nat.lt_of_lt_of_le hG hB0
  have hA0 := hA
  clear hA
  obtain ⟨k, hk, hk0, hk1⟩ := chkR_sz hc
  obtain ⟨al1, al2, al3⟩ := chkR_al hc
  have HC : Hid (∀ W, Calls prog 105 #[.agg r.cells, .pointer (some ⟨b, 0, none⟩)] W fun e w' => e = .returned .nilIface ∧ Below W.heap.size W w') := hide (fun W => by have := rcheckw_any r hr0 b W; rw [hc] at this; exact this)
  have hpu := hr0.pu
  have hus := hr0.us
  have hfew := h.few
  have hdl : hd < 256 := by omega
  have hsl := slotN_lt hc r.pu
  have b1 : usH r < 4294967296 ∧ usN r < 4294967296 ∧ usC r < 4294967296 := ⟨Nat.mod_lt _ (by decide), Nat.mod_lt _ (by decide), Nat.mod_lt _ (by decide)⟩
  have b2 : usH r % 4 = 0 ∧ usN r % 4 = 0 ∧ usC r % 2 = 0 := by unfold usN usC usH t32; omega
  have HH : Hid (∀ W, Calls prog 114 #[.agg r.cells, .int .i64 (hd : Nat)] W fun e w' => e = .returned (.bool true) ∧ Below W.heap.size W w') := hide (fun W => by have := ishead_any r (hd : Int) W; rwa [decide_eq_true (by omega)] at this)
  have HS : Hid (∀ W, Calls prog 107 #[.agg r.cells, .int .u16 (r.pu : Nat)] W fun e w' => e = .returned (.int .u32 (slotN r r.pu : Nat)) ∧ Below W.heap.size W w') := hide (fun W => slot_any r hc r.pu hpu W)
  have HN : Hid (∀ W O1, RamB W B b p f c O1 → AreasAt W → Calls prog 115 #[.pointer (some ⟨b, 0, none⟩), .int .u32 (usH r : Nat), .int .u64 8] W fun e w' => e = .returned (.bool false) ∧ Below W.heap.size W w') := hide (fun W O1 hM hA => by have := isin_b hM hA (usH r) 8 b1.1 (by decide); rwa [h1] at this)
  have e1 : ((r.us : Int) + 2) % 4294967296 = ((usC r : Nat) : Int) := by unfold usC t32; omega
  have e2 : (((r.us : Int) + 4) % 4294967296 + (8 * ((slotN r r.pu : Nat) : Int))) % 4294967296 = ((usH r : Nat) : Int) := by unfold usH t32; omega
  have en : ((usH r : Int) + 4) % 4294967296 = ((usN r : Nat) : Int) := by unfold usN t32; omega
  have en2 : IntKind.u32.wrap ((usH r : Int) + 4) = ((usN r : Nat) : Int) := by rw [IntKind.wrap_u32]; exact en
  generalize usC r = aC at *
  generalize usN r = aN at *
  generalize usH r = aH at *
  generalize slotN r r.pu = sl at *
  have e3 : Hid (IntKind.u32.wrap (8 * (sl : Int)) = 8 * (sl : Int)) := hide (by rw [IntKind.wrap_u32]; omega)
  have e4 : Hid (IntKind.u32.wrap ((r.us : Int) + 4) = ((r.us : Int) + 4) % 4294967296) := hide (by rw [IntKind.wrap_u32])
  have e5 : Hid (IntKind.u32.wrap (((r.us : Int) + 4) % 4294967296 + (8 * ((sl : Nat) : Int))) = (aH : Int)) := hide (by rw [IntKind.wrap_u32]; exact e2)
  obtain ⟨pn, hpn⟩ : ∃ x, (r.pu + 1) % 65536 = x := ⟨_, rfl⟩
  have e6 : Hid (((r.pu : Int) + 1) % 65536 = (pn : Int)) := hide (by omega)
  have hpl : pn < 65536 := by omega
  have htr : ({ r with pu := pn } : Rg) = givenR r := by unfold givenR; rw [hpn]
  have hgp : (givenR r).pu = pn := hpn
  have hgu : (givenR r).us = r.us := rfl
  clear hk hr0 hc al1 al2 al3 h1 b1 b2 e2 hh hpn
  go_enter func84, ntmps84
  go_wp2_with (first | ((with_reducible refine bx_rp w.heap.size r ?_ ?_ ?_); exact rfl; exact rfl; intro W hr hb hz) | ((with_reducible refine al_rp (w.heap.size + 1) ?_ ?_); exact hz.out; intro W hq hb' hz'; replace hr := hr.bl (hz.out ▸ hb'); replace hb := hb.trans (hb'.mono (by omega)); replace hz := hz'; have hM := h.bl hb; have hW := Went.of (O := O) hb hB0; have hA := hA0.bl hb; have hF := h.far 2; have hS : w.heap.size + 2 ≤ W.heap.size := Nat.le_of_eq hz.out.symm; have hB : B ≤ W.heap.size := Nat.le_trans hB0 hb.size; clear hb hz hb' hz') | ((with_reducible refine ld_rp w.heap.size _ hr ?_ ?_ ?_); exact rfl; exact rfl) | (go_at_call 105; (with_reducible refine (HC.out _).mono ?_); rintro e W ⟨rfl, hbc⟩; replace hM := hM.bl hbc; replace hW := hW.bl hbc hB; replace hA := hA.bl hbc; replace hB := Nat.le_trans hB hbc.size; replace hS := Nat.le_trans hS hbc.size; replace hr := hr.bl hbc; replace hq := hq.bl hbc) | (go_at_call 114; (with_reducible refine (HH.out _).mono ?_); rintro e W ⟨rfl, hbc⟩; replace hM := hM.bl hbc; replace hW := hW.bl hbc hB; replace hA := hA.bl hbc; replace hB := Nat.le_trans hB hbc.size; replace hS := Nat.le_trans hS hbc.size; replace hr := hr.bl hbc; replace hq := hq.bl hbc))
  refine wp_region_held_drew (S := (fun V => RowAt V w.heap.size r.cells 34)) (by kernel_rfl) ?_ (fun hHeld => ?_)
  · exact hr.dr
  replace hM := hM.dr
  replace hW := hW.dr
  replace hA := hA.drR
  replace hS : w.heap.size + 2 ≤ (World.drew _).heap.size := hS
  replace hB : B ≤ (World.drew _).heap.size := hB
  replace hq := hq.dr
  generalize World.drew _ = V at hHeld hM hW hA hS hB hq ⊢
  clear hr
  refine tkO 0 (.pointer (some ⟨w.heap.size, 3, none⟩)) (by simp only [gT, gZ]; rfl) (puO (by (intro w hSw; (try dsimp only at hSw); go_simp))) ?_
  simp only [Act.put, pA, pZ, pS]
  refine tkO 1 (.int .u32 (r.us : Nat)) (by simp only [gT, gZ, gS]; rfl) (y_rus w.heap.size r _ (fun V hV => hV) rfl) ?_
  simp only [Act.put, pA, pZ, pS]
  refine tkO 2 (.int .u32 (((r.us : Int) + 4) % 4294967296)) (by simp only [gT, gZ, gS]; rfl) (puO (by (intro w hSw; (try dsimp only at hSw); go_simp ; exact e4.out))) ?_
  simp only [Act.put, pA, pZ, pS]
  refine tkO 3 (.agg r.cells) (by simp only [gT, gZ, gS]; rfl) (y_rp w.heap.size r (fun V hV => hV) rfl rfl) ?_
  simp only [Act.put, pA, pZ, pS]
  refine tkO 4 (.pointer (some ⟨w.heap.size, 5, none⟩)) (by simp only [gT, gZ, gS]; rfl) (puO (by (intro w hSw; (try dsimp only at hSw); go_simp))) ?_
  simp only [Act.put, pA, pZ, pS]
  refine tkO 5 (.int .u16 (r.pu : Nat)) (by simp only [gT, gZ, gS]; rfl) (y_rpu w.heap.size r _ (fun V hV => hV) rfl) ?_
  simp only [Act.put, pA, pZ, pS]
  refine skO 6 (by simp only [gT, gZ, gS]; rfl) (fun K hK => ?_)
  rw [if_pos (by rfl)]
  go_simp
  (with_reducible refine (HS.out _).mono ?_)
  rintro e V2 ⟨rfl, hbc⟩
  have hH2 := hide (hHeld.bl hbc)
  replace hM := hM.bl hbc
  replace hW := hW.bl hbc hB
  replace hA := hA.bl hbc
  replace hB := Nat.le_trans hB hbc.size
  replace hS := Nat.le_trans hS hbc.size
  replace hq := hq.bl hbc
  clear hHeld hbc
  go_simp
  refine hK.out _ _ ?_ (fun hHeld => ?_)
  · exact hH2.out
  clear hK K
  clear hH2
  refine tkO 7 (.int .u32 (8 * (sl : Int))) (by simp only [gT, gZ, gS]; rfl) (puO (by (intro w hSw; (try dsimp only at hSw); go_simp ; exact e3.out))) ?_
  simp only [Act.put, pA, pZ, pS]
  refine tkO 8 (.int .u32 (aH : Nat)) (by simp only [gT, gZ, gS]; rfl) (puO (by (intro w hSw; (try dsimp only at hSw); go_simp ; exact e5.out))) ?_
  simp only [Act.put, pA, pZ, pS]
  refine tkO 9 (.int .u32 (aH : Nat)) (by simp only [gT, gZ, gS]; rfl) (puO (by (intro w hSw; (try dsimp only at hSw); go_simp))) ?_
  simp only [Act.put, pA, pZ, pS]
  refine wpAnyH_done (by kernel_rfl) ?_ _
  have hr := hHeld
  clear hHeld
  go_wp2_with (first | (go_at_call 115; (with_reducible refine (HN.out _ _ hM hA).mono ?_); rintro e W ⟨rfl, hbc⟩; replace hM := hM.bl hbc; replace hW := hW.bl hbc hB; replace hA := hA.bl hbc; replace hB := Nat.le_trans hB hbc.size; replace hS := Nat.le_trans hS hbc.size; replace hr := hr.bl hbc; replace hq := hq.bl hbc) | ((with_reducible refine st_rp (w.heap.size + 1) _ zeroRg hq ?_ ?_ ?_); exact rfl; exact rfl; intro W hnew ho; replace hr := hr.only ho (by omega); replace hM := hM.only ho (hF.at 1 (by omega)); replace hA := hA.onlyR ho (by omega); replace hW := hW.only ho (by omega) (by omega); replace hS := (show w.heap.size + 2 ≤ W.heap.size by rw [ho.size]; exact hS); replace hB := (show B ≤ W.heap.size by rw [ho.size]; exact hB); replace hq := hnew; clear hnew ho))
  refine bodyPost_ret (results_cell_u results84 _ _ (w.heap.size + 1) _ _ _ rfl hq underlying34 rfl size_rp) rfl ?_
  exact ⟨rfl, _, hM, hW⟩
def halfF (r : Rg) (f : Nat → Nat) (h n : Nat) : Nat → Nat := wroteF (wroteF f (plM (usH r)) (numB h 4)) (plM (usN r)) (numB n 4)
theorem give_half (r : Rg) (hr0 : r.Ok) (hc : chkR r = true) {w : World} {B b p c : Nat} {f : Nat → Nat} {O : Nat → Prop} (h : RamB w B b p f c O) (hA : AreasAt w) (hG : 2 < B) (hd n : Nat) (hh : (hd : Int) < r.sz) (hn : n < 4294967296) (h1 : plB p (usH r) 8 = true) (h3 : plB p (usC r) 2 = false) (hcc : c ≤ 900000000) :
    Calls prog 84 #[.agg r.cells, .pointer (some ⟨b, 0, none⟩), .int .i64 (hd : Nat), .int .u32 (n : Nat)] w fun e w' => e = .returned (.tuple #[.agg zeroRg.cells, .iface 82 (.int .i64 22)]) ∧ ∃ O', RamB w' B b p (halfF r f hd n) (c + 1 + 1) O' ∧ Went B O O' w w' := by
  unfold halfF
  have hB0 := h.base
  have hGw : 2 < w.heap.size := Nat.lt_of_lt_of_le hG hB0
  have hA0 := hA
  clear hA
  obtain ⟨k, hk, hk0, hk1⟩ := chkR_sz hc
  obtain ⟨al1, al2, al3⟩ := chkR_al hc
  have HC : Hid (∀ W, Calls prog 105 #[.agg r.cells, .pointer (some ⟨b, 0, none⟩)] W fun e w' => e = .returned .nilIface ∧ Below W.heap.size W w') := hide (fun W => by have := rcheckw_any r hr0 b W; rw [hc] at this; exact this)
  have hpu := hr0.pu
  have hus := hr0.us
  have hfew := h.few
  obtain ⟨q1, q2, q3⟩ := usN_in hfew h1
  have hdl : hd < 256 := by omega
  have hsl := slotN_lt hc r.pu
  have b1 : usH r < 4294967296 ∧ usN r < 4294967296 ∧ usC r < 4294967296 := ⟨Nat.mod_lt _ (by decide), Nat.mod_lt _ (by decide), Nat.mod_lt _ (by decide)⟩
  have b2 : usH r % 4 = 0 ∧ usN r % 4 = 0 ∧ usC r % 2 = 0 := by unfold usN usC usH t32; omega
  have HH : Hid (∀ W, Calls prog 114 #[.agg r.cells, .int .i64 (hd : Nat)] W fun e w' => e = .returned (.bool true) ∧ Below W.heap.size W w') := hide (fun W => by have := ishead_any r (hd : Int) W; rwa [decide_eq_true (by omega)] at this)
  have HS : Hid (∀ W, Calls prog 107 #[.agg r.cells, .int .u16 (r.pu : Nat)] W fun e w' => e = .returned (.int .u32 (slotN r r.pu : Nat)) ∧ Below W.heap.size W w') := hide (fun W => slot_any r hc r.pu hpu W)
  have HN : Hid (∀ W O1, RamB W B b p f c O1 → AreasAt W → Calls prog 115 #[.pointer (some ⟨b, 0, none⟩), .int .u32 (usH r : Nat), .int .u64 8] W fun e w' => e = .returned (.bool true) ∧ Below W.heap.size W w') := hide (fun W O1 hM hA => by have := isin_b hM hA (usH r) 8 b1.1 (by decide); rwa [h1] at this)
  have H1 : Hid (∀ W O1, RamB W B b p (f) (c) O1 → AreasAt W → Calls prog 116 #[.pointer (some ⟨b, 0, none⟩), .int .u32 (usH r : Nat), .int .i64 4, .int .u32 (hd : Nat)] W fun e w' => e = .returned .nilIface ∧ ∃ O', RamB w' B b p (wroteF f (plM (usH r)) (numB hd 4)) (c + 1) O' ∧ Went B O1 O' W w') := hide (fun W O1 hM hA => rstore_yes hM hA hG (usH r) 4 b1.1 (by decide) b2.1 q3 hd (by omega) (by omega))
  have H2 : Hid (∀ W O1, RamB W B b p (wroteF f (plM (usH r)) (numB hd 4)) (c + 1) O1 → AreasAt W → Calls prog 116 #[.pointer (some ⟨b, 0, none⟩), .int .u32 (usN r : Nat), .int .i64 4, .int .u32 (n : Nat)] W fun e w' => e = .returned .nilIface ∧ ∃ O', RamB w' B b p (wroteF (wroteF f (plM (usH r)) (numB hd 4)) (plM (usN r)) (numB n 4)) (c + 1 + 1) O' ∧ Went B O1 O' W w') := hide (fun W O1 hM hA => rstore_yes hM hA hG (usN r) 4 b1.2.1 (by decide) b2.2.1 q2 n hn (by omega))
  have H3 : Hid (∀ W O1, RamB W B b p (wroteF (wroteF f (plM (usH r)) (numB hd 4)) (plM (usN r)) (numB n 4)) (c + 1 + 1) O1 → AreasAt W → Calls prog 116 #[.pointer (some ⟨b, 0, none⟩), .int .u32 (usC r : Nat), .int .i64 2, .int .u32 ((r.pu + 1) % 65536 : Nat)] W fun e w' => e = .returned (.iface 82 (.int .i64 22)) ∧ ∃ O', RamB w' B b p (wroteF (wroteF f (plM (usH r)) (numB hd 4)) (plM (usN r)) (numB n 4)) (c + 1 + 1) O' ∧ Went B O1 O' W w') := hide (fun W O1 hM hA => rstore_no hM hA hG (usC r) 2 b1.2.2 (by decide) b2.2.2 h3 _ (by omega))
  have e1 : ((r.us : Int) + 2) % 4294967296 = ((usC r : Nat) : Int) := by unfold usC t32; omega
  have e2 : (((r.us : Int) + 4) % 4294967296 + (8 * ((slotN r r.pu : Nat) : Int))) % 4294967296 = ((usH r : Nat) : Int) := by unfold usH t32; omega
  have en : ((usH r : Int) + 4) % 4294967296 = ((usN r : Nat) : Int) := by unfold usN t32; omega
  have en2 : IntKind.u32.wrap ((usH r : Int) + 4) = ((usN r : Nat) : Int) := by rw [IntKind.wrap_u32]; exact en
  generalize wroteF (wroteF f (plM (usH r)) (numB hd 4)) (plM (usN r)) (numB n 4) = f2 at *
  generalize wroteF f (plM (usH r)) (numB hd 4) = f1 at *
  generalize usC r = aC at *
  generalize usN r = aN at *
  generalize usH r = aH at *
  generalize slotN r r.pu = sl at *
  have e3 : Hid (IntKind.u32.wrap (8 * (sl : Int)) = 8 * (sl : Int)) := hide (by rw [IntKind.wrap_u32]; omega)
  have e4 : Hid (IntKind.u32.wrap ((r.us : Int) + 4) = ((r.us : Int) + 4) % 4294967296) := hide (by rw [IntKind.wrap_u32])
  have e5 : Hid (IntKind.u32.wrap (((r.us : Int) + 4) % 4294967296 + (8 * ((sl : Nat) : Int))) = (aH : Int)) := hide (by rw [IntKind.wrap_u32]; exact e2)
  obtain ⟨pn, hpn⟩ : ∃ x, (r.pu + 1) % 65536 = x := ⟨_, rfl⟩
  have e6 : Hid (((r.pu : Int) + 1) % 65536 = (pn : Int)) := hide (by omega)
  have hpl : pn < 65536 := by omega
  have htr : ({ r with pu := pn } : Rg) = givenR r := by unfold givenR; rw [hpn]
  rw [hpn] at H3
  have hgp : (givenR r).pu = pn := hpn
  have hgu : (givenR r).us = r.us := rfl
  clear hk hr0 hc al1 al2 al3 h1 h3 q1 q2 q3 b1 b2 e2 hh hcc hpn
  go_enter func84, ntmps84
  go_wp2_with (first | ((with_reducible refine bx_rp w.heap.size r ?_ ?_ ?_); exact rfl; exact rfl; intro W hr hb hz) | ((with_reducible refine al_rp (w.heap.size + 1) ?_ ?_); exact hz.out; intro W hq hb' hz'; replace hr := hr.bl (hz.out ▸ hb'); replace hb := hb.trans (hb'.mono (by omega)); replace hz := hz'; have hM := h.bl hb; have hW := Went.of (O := O) hb hB0; have hA := hA0.bl hb; have hF := h.far 2; have hS : w.heap.size + 2 ≤ W.heap.size := Nat.le_of_eq hz.out.symm; have hB : B ≤ W.heap.size := Nat.le_trans hB0 hb.size; clear hb hz hb' hz') | ((with_reducible refine ld_rp w.heap.size _ hr ?_ ?_ ?_); exact rfl; exact rfl) | (go_at_call 105; (with_reducible refine (HC.out _).mono ?_); rintro e W ⟨rfl, hbc⟩; replace hM := hM.bl hbc; replace hW := hW.bl hbc hB; replace hA := hA.bl hbc; replace hB := Nat.le_trans hB hbc.size; replace hS := Nat.le_trans hS hbc.size; replace hr := hr.bl hbc; replace hq := hq.bl hbc) | (go_at_call 114; (with_reducible refine (HH.out _).mono ?_); rintro e W ⟨rfl, hbc⟩; replace hM := hM.bl hbc; replace hW := hW.bl hbc hB; replace hA := hA.bl hbc; replace hB := Nat.le_trans hB hbc.size; replace hS := Nat.le_trans hS hbc.size; replace hr := hr.bl hbc; replace hq := hq.bl hbc))
  refine wp_region_held_drew (S := (fun V => RowAt V w.heap.size r.cells 34)) (by kernel_rfl) ?_ (fun hHeld => ?_)
  · exact hr.dr
  replace hM := hM.dr
  replace hW := hW.dr
  replace hA := hA.drR
  replace hS : w.heap.size + 2 ≤ (World.drew _).heap.size := hS
  replace hB : B ≤ (World.drew _).heap.size := hB
  replace hq := hq.dr
  generalize World.drew _ = V at hHeld hM hW hA hS hB hq ⊢
  clear hr
  refine tkO 0 (.pointer (some ⟨w.heap.size, 3, none⟩)) (by simp only [gT, gZ]; rfl) (puO (by (intro w hSw; (try dsimp only at hSw); go_simp))) ?_
  simp only [Act.put, pA, pZ, pS]
  refine tkO 1 (.int .u32 (r.us : Nat)) (by simp only [gT, gZ, gS]; rfl) (y_rus w.heap.size r _ (fun V hV => hV) rfl) ?_
  simp only [Act.put, pA, pZ, pS]
  refine tkO 2 (.int .u32 (((r.us : Int) + 4) % 4294967296)) (by simp only [gT, gZ, gS]; rfl) (puO (by (intro w hSw; (try dsimp only at hSw); go_simp ; exact e4.out))) ?_
  simp only [Act.put, pA, pZ, pS]
  refine tkO 3 (.agg r.cells) (by simp only [gT, gZ, gS]; rfl) (y_rp w.heap.size r (fun V hV => hV) rfl rfl) ?_
  simp only [Act.put, pA, pZ, pS]
  refine tkO 4 (.pointer (some ⟨w.heap.size, 5, none⟩)) (by simp only [gT, gZ, gS]; rfl) (puO (by (intro w hSw; (try dsimp only at hSw); go_simp))) ?_
  simp only [Act.put, pA, pZ, pS]
  refine tkO 5 (.int .u16 (r.pu : Nat)) (by simp only [gT, gZ, gS]; rfl) (y_rpu w.heap.size r _ (fun V hV => hV) rfl) ?_
  simp only [Act.put, pA, pZ, pS]
  refine skO 6 (by simp only [gT, gZ, gS]; rfl) (fun K hK => ?_)
  rw [if_pos (by rfl)]
  go_simp
  (with_reducible refine (HS.out _).mono ?_)
  rintro e V2 ⟨rfl, hbc⟩
  have hH2 := hide (hHeld.bl hbc)
  replace hM := hM.bl hbc
  replace hW := hW.bl hbc hB
  replace hA := hA.bl hbc
  replace hB := Nat.le_trans hB hbc.size
  replace hS := Nat.le_trans hS hbc.size
  replace hq := hq.bl hbc
  clear hHeld hbc
  go_simp
  refine hK.out _ _ ?_ (fun hHeld => ?_)
  · exact hH2.out
  clear hK K
  clear hH2
  refine tkO 7 (.int .u32 (8 * (sl : Int))) (by simp only [gT, gZ, gS]; rfl) (puO (by (intro w hSw; (try dsimp only at hSw); go_simp ; exact e3.out))) ?_
  simp only [Act.put, pA, pZ, pS]
  refine tkO 8 (.int .u32 (aH : Nat)) (by simp only [gT, gZ, gS]; rfl) (puO (by (intro w hSw; (try dsimp only at hSw); go_simp ; exact e5.out))) ?_
  simp only [Act.put, pA, pZ, pS]
  refine tkO 9 (.int .u32 (aH : Nat)) (by simp only [gT, gZ, gS]; rfl) (puO (by (intro w hSw; (try dsimp only at hSw); go_simp))) ?_
  simp only [Act.put, pA, pZ, pS]
  refine wpAnyH_done (by kernel_rfl) ?_ _
  have hr := hHeld
  clear hHeld
  go_wp2_with (first | (go_at_call 115; (with_reducible refine (HN.out _ _ hM hA).mono ?_); rintro e W ⟨rfl, hbc⟩; replace hM := hM.bl hbc; replace hW := hW.bl hbc hB; replace hA := hA.bl hbc; replace hB := Nat.le_trans hB hbc.size; replace hS := Nat.le_trans hS hbc.size; replace hr := hr.bl hbc; replace hq := hq.bl hbc) | (go_at_call 116; (with_reducible refine (H1.out _ _ hM hA).mono ?_); rintro e W2 ⟨rfl, O2, hM2, hW2⟩; replace hr := hW2.row hr (hF.at 0 (by omega)); replace hq := hW2.row hq (hF.at 1 (by omega)); replace hA := hA.wentR hG hW2; replace hF := hF.went hW2 hS; replace hS := Nat.le_trans hS hW2.size; replace hW := hW.trans hW2; replace hB := Nat.le_trans hB hW2.size; replace hM := hM2; clear hM2 hW2) | (go_at_call 116; (with_reducible refine (H2.out _ _ hM hA).mono ?_); rintro e W2 ⟨rfl, O2, hM2, hW2⟩; replace hr := hW2.row hr (hF.at 0 (by omega)); replace hq := hW2.row hq (hF.at 1 (by omega)); replace hA := hA.wentR hG hW2; replace hF := hF.went hW2 hS; replace hS := Nat.le_trans hS hW2.size; replace hW := hW.trans hW2; replace hB := Nat.le_trans hB hW2.size; replace hM := hM2; clear hM2 hW2) | (go_at_call 116; (with_reducible refine (H3.out _ _ hM hA).mono ?_); rintro e W2 ⟨rfl, O2, hM2, hW2⟩; replace hr := hW2.row hr (hF.at 0 (by omega)); replace hq := hW2.row hq (hF.at 1 (by omega)); replace hA := hA.wentR hG hW2; replace hF := hF.went hW2 hS; replace hS := Nat.le_trans hS hW2.size; replace hW := hW.trans hW2; replace hB := Nat.le_trans hB hW2.size; replace hM := hM2; clear hM2 hW2) | ((with_reducible refine ld_rus w.heap.size _ _ hr ?_ ?_ ?_); exact rfl; exact rfl) | ((with_reducible refine ld_rpu w.heap.size _ _ hr ?_ ?_ ?_); exact rfl; exact rfl) | ((with_reducible refine st_rpu w.heap.size _ pn _ hr ?_ ?_ ?_); exact rfl; (exact congrArg _ e6.out); intro W hnew ho; rw [htr] at hnew; replace hq := hq.only ho (by omega); replace hM := hM.only ho (hF.at 0 (by omega)); replace hA := hA.onlyR ho (by omega); replace hW := hW.only ho (by omega) (by omega); replace hS := (show w.heap.size + 2 ≤ W.heap.size by rw [ho.size]; exact hS); replace hB := (show B ≤ W.heap.size by rw [ho.size]; exact hB); replace hr := hnew; clear hnew ho) | ((with_reducible refine st_rp (w.heap.size + 1) _ zeroRg hq ?_ ?_ ?_); exact rfl; exact rfl; intro W hnew ho; replace hr := hr.only ho (by omega); replace hM := hM.only ho (hF.at 1 (by omega)); replace hA := hA.onlyR ho (by omega); replace hW := hW.only ho (by omega) (by omega); replace hS := (show w.heap.size + 2 ≤ W.heap.size by rw [ho.size]; exact hS); replace hB := (show B ≤ W.heap.size by rw [ho.size]; exact hB); replace hq := hnew; clear hnew ho))
  refine bodyPost_ret (results_cell_u results84 _ _ (w.heap.size + 1) _ _ _ rfl hq underlying34 rfl size_rp) rfl ?_
  exact ⟨rfl, _, hM, hW⟩
def giveV (p : Nat) (f : Nat → Nat) (r : Rg) (hd : Int) (n : Nat) : (Nat → Nat) × Option Rg :=
  if chkR r = true then
    (if 0 ≤ hd ∧ hd < r.sz then
      (if plB p (usH r) 8 = true then
        (if plB p (usC r) 2 = true then (giveF r f hd.toNat n, some (givenR r)) else (halfF r f hd.toNat n, none))
       else (f, none))
     else (f, none))
  else (f, none)
structure GaveE (o : Option Rg) (e : Ending) : Prop where
  ex : (∃ r, o = some r ∧ e = .returned (.tuple #[.agg r.cells, .nilIface])) ∨ (o = none ∧ ∃ k : Int, e = .returned (.tuple #[.agg zeroRg.cells, .iface 82 (.int .i64 k)]))
theorem give_any (r : Rg) (hr0 : r.Ok) {w : World} {B b p c : Nat} {f : Nat → Nat} {O : Nat → Prop} (h : RamB w B b p f c O) (hA : AreasAt w) (hG : 2 < B) (hd : Int) (n : Nat) (hn : n < 4294967296) (hcc : c ≤ 900000000) :
    Calls prog 84 #[.agg r.cells, .pointer (some ⟨b, 0, none⟩), .int .i64 hd, .int .u32 (n : Nat)] w fun e w' => GaveE (giveV p f r hd n).2 e ∧ ∃ O', RamB w' B b p (giveV p f r hd n).1 (c + 1 + 1 + 1) O' ∧ Went B O O' w w' := by
  unfold giveV
  by_cases hc : chkR r = true
  · rw [if_pos hc]
    by_cases hh : 0 ≤ hd ∧ hd < r.sz
    · rw [if_pos hh]
      obtain ⟨d, rfl⟩ := Int.eq_ofNat_of_zero_le hh.1
      rw [Int.toNat_natCast]
      by_cases h1 : plB p (usH r) 8 = true
      · rw [if_pos h1]
        by_cases h3 : plB p (usC r) 2 = true
        · rw [if_pos h3]
          refine (give_ok r hr0 hc h hA hG d n hh.2 hn h1 h3 hcc).mono ?_
          rintro e w' ⟨rfl, hM⟩
          exact ⟨⟨.inl ⟨_, rfl, rfl⟩⟩, hM⟩
        · rw [if_neg h3]
          refine (give_half r hr0 hc h hA hG d n hh.2 hn h1 (by simpa using h3) hcc).mono ?_
          rintro e w' ⟨rfl, O', hM, hW⟩
          exact ⟨⟨.inr ⟨rfl, _, rfl⟩⟩, O', hM.more (by omega), hW⟩
      · rw [if_neg h1]
        refine (give_out r hr0 hc h hA hG d n hh.2 hn (by simpa using h1)).mono ?_
        rintro e w' ⟨rfl, O', hM, hW⟩
        exact ⟨⟨.inr ⟨rfl, _, rfl⟩⟩, O', hM.more (by omega), hW⟩
    · rw [if_neg hh]
      refine (give_hd r hr0 hc b hd n hh w).mono ?_
      rintro e w' ⟨rfl, hb⟩
      exact ⟨⟨.inr ⟨rfl, _, rfl⟩⟩, O, (h.bl hb).more (by omega), Went.of hb h.base⟩
  · rw [if_neg hc]
    refine (give_bad r hr0 (by simpa using hc) b hd n w).mono ?_
    rintro e w' ⟨rfl, hb⟩
    exact ⟨⟨.inr ⟨rfl, _, rfl⟩⟩, O, (h.bl hb).more (by omega), Went.of hb h.base⟩
end Go.Proofs.YtbggkoahofnnjaaGreatDoor
namespace Go.Proofs.YtbggkoahofnnjaaGreatDoor
open Go.RowKit
def nilS : Value := .slice none 0 0
theorem own_one {w : World} {B e sz n : Nat} {v : Value} {xs : List Value} (h : w.ownsRow B e sz v n xs) : v.oneCell' = true := by
  obtain ⟨a, c, rfl, _⟩ := own_form h
  rfl
theorem own_ty {w : World} {B e sz n g : Nat} {v : Value} {xs : List Value} {cs : Array Value} {t : TypeId} (h : w.ownsRow B e sz v n xs) (hg : v.ownBlock = some g) (hr : RowAt w g cs t) : t = e := by
  rcases h.2 with ⟨h1, _⟩ | ⟨g', cap, cur, h1, _, h3, _⟩
  · subst h1; cases hg
  · subst h1
    cases hg
    have := hr.symm.trans h3
    simp at this
    exact this.2
theorem BytesO.bl {w W : World} {O : Nat → Prop} {la : Option Addr} {l : List Nat} (h : BytesO w O la l) (hb : Below w.heap.size w W) : BytesO W O la l :=
  ⟨fun h0 => by
    obtain ⟨b, o, e, h1, h2, h3⟩ := h.lies h0
    exact ⟨b, o, e, Nat.lt_of_lt_of_le h1 hb.size, h2, fun j hj => (hb.cell (p := ⟨b, o + j, none⟩) h1).trans (h3 j hj)⟩, h.small⟩
theorem gave_none {e : Ending} (h : GaveE none e) : ∃ z : Int, e = .returned (.tuple #[.agg zeroRg.cells, .iface 82 (.int .i64 z)]) := by
  rcases h.ex with ⟨r, q, _⟩ | ⟨_, z, e⟩
  · cases q
  · exact ⟨z, e⟩
theorem gave_some {r : Rg} {e : Ending} (h : GaveE (some r) e) : e = .returned (.tuple #[.agg r.cells, .nilIface]) := by
  rcases h.ex with ⟨r', q, e⟩ | ⟨q, _⟩
  · cases q; exact e
  · cases q
theorem givenR_ok {p : Nat} {f : Nat → Nat} {r r' : Rg} {hd : Int} {n : Nat} (h : r.Ok) (e : (giveV p f r hd n).2 = some r') : r'.Ok := by
  unfold giveV at e
  repeat' split at e
  all_goals first
    | (cases e; exact ⟨h.sz0, h.sz1, h.de, h.av, h.us, h.la, Nat.mod_lt _ (by decide)⟩)
    | cases e
theorem inS_less {p : Nat} {s : Sg} {n : Int} (h : inS p s = true) (h0 : 0 ≤ n) (hn : n ≤ s.n) : inS p { s with n := n } = true := by
  unfold inS plB at *
  have := of_decide_eq_true h
  exact decide_eq_true (by simp only; omega)
theorem parts_inS {p : Nat} (wr : Bool) : ∀ (l : List Sg) (n : Int), (∀ s ∈ l, inS p s = true) → (partsV wr n l).all (inS p) = true
  | [], n, h => rfl
  | s :: t, n, h => by
    have ht := fun n => parts_inS wr t n (fun x hx => h x (List.mem_cons_of_mem _ hx))
    simp only [partsV]
    split
    · rename_i hx
      rw [List.all_cons, ht, Bool.and_true]
      exact inS_less (h s (List.mem_cons_self ..)) (by split <;> omega) (by split <;> omega)
    · exact ht n
theorem odd_parts (p : Nat) : ∀ (l : List (Nat → Nat)) (tot : Nat) (wr : Bool), oddL p tot wr l = false → (∀ g ∈ l, inS p (sgOf g) = true) ∧ (0 < l.length → tot + (l.map fun g => g 2).sum ≤ 1048576)
  | [], tot, wr, h => ⟨fun g hg => (by cases hg), fun h => absurd h (by decide)⟩
  | g :: t, tot, wr, h => by
    simp only [oddL, oddD, Bool.or_eq_false_iff, decide_eq_false_iff_not, Bool.not_eq_false'] at h
    obtain ⟨⟨_, h2, _, _, h5⟩, h6⟩ := h
    obtain ⟨i1, i2⟩ := odd_parts p t _ _ h6
    refine ⟨fun x hx => ?_, fun _ => ?_⟩
    · rcases List.mem_cons.1 hx with rfl | hx
      · exact h5
      · exact i1 x hx
    · simp only [List.map_cons, List.sum_cons]
      cases t with
      | nil => simp; omega
      | cons y t => have := i2 (by simp); omega
structure PartsOk (p : Nat) (ps : List Sg) : Prop where
  ok : ∀ s ∈ ps, s.Ok ∧ 0 ≤ s.n
  ins : ∀ s ∈ ps, inS p s = true
  len : ps.length ≤ 256
  pos : 0 < ps.length
  tot : (ps.map fun s => s.n.toNat).sum ≤ 1048576
theorem walk_parts {p : Nat} {f : Nat → Nat} {r : Rg} {hd : Int} {ps : List Sg} (hf : ∀ x, f x < 256) (hc : chkR r = true) (h : walkV p f r hd = some ps) : PartsOk p ps := by
  unfold walkV at h
  cases hfo : followV p f r r.sz.toNat hd with
  | none => rw [hfo] at h; cases h
  | some l =>
    rw [hfo] at h
    simp only at h
    cases ho : oddL p 0 false l with
    | true => rw [ho] at h; simp at h
    | false =>
      rw [ho] at h
      simp at h
      subst h
      obtain ⟨k, hk, hk0, hk1⟩ := chkR_sz hc
      obtain ⟨h1, h2⟩ := follow_len _ _ _ hfo
      rw [hk, Int.toNat_natCast] at h1
      have hw := follow_words hf _ _ _ hfo
      obtain ⟨i1, i2⟩ := odd_parts p l 0 false ho
      refine ⟨fun s hs => ?_, fun s hs => ?_, by rw [List.length_map]; omega, by rw [List.length_map]; exact h2, ?_⟩
      · obtain ⟨g, hg, rfl⟩ := List.mem_map.1 hs
        have a0 := hw g hg 0
        have a2 := hw g hg 2
        exact ⟨⟨a0, by show (_ : Int) ≤ ((g 2 : Nat) : Int); omega, by show ((g 2 : Nat) : Int) ≤ _; omega⟩, by show (0 : Int) ≤ ((g 2 : Nat) : Int); omega⟩
      · obtain ⟨g, hg, rfl⟩ := List.mem_map.1 hs
        exact i1 g hg
      · rw [List.map_map]
        have e : ((fun s => s.n.toNat) ∘ sgOf) = fun g : Nat → Nat => g 2 := by funext g; show ((g 2 : Nat) : Int).toNat = _; simp
        rw [e]
        have := i2 h2
        omega
theorem walk_all (r : Rg) (hr0 : r.Ok) (hc : chkR r = true) (hd : Int) {w : World} {B b p c : Nat} {f : Nat → Nat} {O : Nat → Prop} (h : RamB w B b p f c O) (hA : AreasAt w) (hG : 2 < B) : Calls prog 80 #[.agg r.cells, .pointer (some ⟨b, 0, none⟩), .int .i64 hd] w fun e w' => ∃ O', RamB w' B b p f c O' ∧ Went B O O' w w' ∧ ((walkV p f r hd = none ∧ e = .returned (.tuple #[.slice none 0 0, .iface 82 (.int .i64 22)])) ∨ ∃ ps v, walkV p f r hd = some ps ∧ e = .returned (.tuple #[v, .nilIface]) ∧ w'.ownsRow w.heap.size 193 3 v ps.length (segL ps) ∧ ∀ g, v.ownBlock = some g → ¬ O' g) := by
  unfold walkV
  cases hf : followV p f r r.sz.toNat hd with
  | none =>
    refine (walk_nf r hr0 hc hd h hA hG hf).mono ?_
    rintro e w' ⟨rfl, O', h1, h2⟩
    exact ⟨O', h1, h2, .inl ⟨rfl, rfl⟩⟩
  | some l =>
    cases ho : oddL p 0 false l with
    | true =>
      refine (walk_odd r hr0 hc hd h hA hG l hf ho).mono ?_
      rintro e w' ⟨rfl, O', h1, h2⟩
      exact ⟨O', h1, h2, .inl ⟨by simp [ho], rfl⟩⟩
    | false =>
      refine (walk_ok r hr0 hc hd h hA hG l hf ho).mono ?_
      rintro e w' ⟨O', v, rfl, h1, h2, h3, h4⟩
      exact ⟨O', h1, h2, .inr ⟨l.map sgOf, v, by simp [ho], rfl, by rw [List.length_map]; exact h3, h4⟩⟩
theorem gathF_small {f : Nat → Nat} (hf : ∀ x, f x < 256) (l : List Sg) : ∀ y ∈ gathF f l, y < 256 := by
  intro y hy
  obtain ⟨s, _, hs⟩ := List.mem_flatMap.1 hy
  obtain ⟨j, _, rfl⟩ := List.mem_map.1 hs
  exact hf _
def sumR (wr : Bool) : List Sg → Nat
  | [] => 0
  | s :: t => (if s.wr = wr then s.n.toNat else 0) + sumR wr t
theorem sumR_le (wr : Bool) : ∀ (l : List Sg), sumR wr l ≤ (l.map fun s => s.n.toNat).sum
  | [] => Nat.le_refl _
  | s :: t => by
    have := sumR_le wr t
    simp only [sumR, List.map_cons, List.sum_cons]
    split <;> omega
theorem room_sum (wr : Bool) : ∀ (l : List Sg) (a : Int), 0 ≤ a → (∀ s ∈ l, 0 ≤ s.n) → a + (sumR wr l : Int) ≤ 9223372036854775807 → roomV wr a l = a + (sumR wr l : Int)
  | [], a, _, _, _ => by simp [roomV, sumR]
  | s :: t, a, h0, hn, hb => by
    have hs := hn s (List.mem_cons_self ..)
    simp only [sumR] at hb ⊢
    simp only [roomV]
    by_cases hw : s.wr = wr
    · rw [if_pos hw] at hb ⊢
      have e : moreN a s.n = a + s.n := by unfold moreN; rw [if_pos hs, if_pos (by omega)]
      rw [if_pos hw, e, room_sum wr t (a + s.n) (by omega) (fun x hx => hn x (List.mem_cons_of_mem _ hx)) (by omega)]
      omega
    · rw [if_neg hw] at hb ⊢
      rw [if_neg hw, room_sum wr t a h0 (fun x hx => hn x (List.mem_cons_of_mem _ hx)) (by omega)]
      omega
theorem gath_len (f : Nat → Nat) : ∀ (l : List Sg) (n : Int), (∀ s ∈ l, 0 ≤ s.n) → (sumR false l : Int) ≤ n → (gathF f (partsV false n l)).length = sumR false l
  | [], n, _, _ => rfl
  | s :: t, n, hn, hb => by
    have hs := hn s (List.mem_cons_self ..)
    have ih := fun n h => gath_len f t n (fun x hx => hn x (List.mem_cons_of_mem _ hx)) h
    simp only [sumR] at hb ⊢
    simp only [partsV]
    by_cases hw : s.wr = false
    · rw [if_pos hw] at hb ⊢
      by_cases h1 : 0 < s.n
      · rw [if_pos ⟨hw, h1, by omega⟩, if_pos (by omega)]
        show (segF f _ ++ gathF f _).length = _
        rw [List.length_append, segF_len, ih _ (by omega)]
      · rw [if_neg (fun e => h1 e.2.1), ih n (by omega)]
        omega
    · rw [if_neg hw] at hb ⊢
      rw [if_neg (fun e => hw e.1), ih n (by omega)]
      omega
theorem PartsOk.rooms {p : Nat} {ps : List Sg} (h : PartsOk p ps) (wr : Bool) : roomV wr 0 ps = (sumR wr ps : Int) ∧ sumR wr ps ≤ 1048576 := by
  have h1 := sumR_le wr ps
  have h2 := h.tot
  refine ⟨by rw [room_sum wr ps 0 (by decide) (fun s hs => (h.ok s hs).2) (by omega)]; omega, by omega⟩
variable {P : Program} {ops : Array Oper} {rest : List Oper} {dst : Option Tmp} {ty t : TypeId} {pos : String} {after : Array Edge} {a : Act} {w : World} {Q : Exit → Act → World → Prop} {K : Act → World → Prop} {x y : Operand} {gd : Option (Nat × Bool)}
end Go.Proofs.YtbggkoahofnnjaaGreatDoor
namespace Go.Proofs.YtbggkoahofnnjaaGreatDoor
open Go.RowKit
structure Nc where
  p : V
  be : Bool
  lo : Nat
structure Nc.Ok (s : Nc) : Prop where
  p : s.p.Ok
  lo : s.lo < 4294967296
def zeroNc : Nc := ⟨zeroV, false, 0⟩
def Nc.c (s : Nc) : Array Value := s.p.cells ++ #[.bool s.be, .int .u32 (s.lo : Nat)]
def Nc.pw (s : Nc) (p : V) : Nc := ⟨p, s.be, s.lo⟩
def Nc.bw (s : Nc) (b : Bool) : Nc := ⟨s.p, b, s.lo⟩
def Nc.lw (s : Nc) (n : Nat) : Nc := ⟨s.p, s.be, n⟩
def Nc.fail (s : Nc) : Nc := s.pw (failV s.p)
def Nc.lost (s : Nc) : Nc := s.lw ((s.lo + 1) % 4294967296)
structure Cn where
  r : Rg
  hd : Int
def zeroCn : Cn := ⟨zeroRg, 0⟩
def Cn.c (c : Cn) (v : Value) : Array Value := c.r.cells ++ #[.int .i64 c.hd, v]
def ncNext (p : Nat) (f : Nat → Nat) (r : Rg) : Nat × Option (Cn × List Sg) :=
  if (nextV p f r).2.2.2 = 0 then
    (if (nextV p f r).2.2.1 = true then
      (match walkV p f (nextV p f r).1 ((nextV p f r).2.1 : Nat) with
       | none => (22, none)
       | some l => (0, some (⟨(nextV p f r).1, ((nextV p f r).2.1 : Nat)⟩, l)))
     else (0, none))
  else ((nextV p f r).2.2.2, none)
def isFr (n : Int) : Bool := decide (1 ≤ n) && decide (n ≤ 1514)
def ncFrame (f : Nat → Nat) (l : List Sg) : Option (List Nat) :=
  if isFr (roomV false 0 l - 12) = true then some ((gathF f (partsV false 9223372036854775807 l)).drop 12) else none
def ncAns (p : Nat) (f : Nat → Nat) (s : V) (q : Nat) (c : Cn) (l : List Sg) (b : List Nat) : (Nat → Nat) × V × Bool :=
  if scatE p l b.length = 0 then
    (match (giveV p (scatF f (partsV true b.length l) b) c.r c.hd b.length).2 with
     | none => ((giveV p (scatF f (partsV true b.length l) b) c.r c.hd b.length).1, failV (s.qw q ((s.q q).rw' c.r)), false)
     | some r => ((giveV p (scatF f (partsV true b.length l) b) c.r c.hd b.length).1, usedV ((s.qw q ((s.q q).rw' c.r)).qw q (((s.qw q ((s.q q).rw' c.r)).q q).rw' r)), true))
  else (f, failV (s.qw q ((s.q q).rw' c.r)), false)
def ncWorks (s : V) (q : Nat) : Bool := liveV s && (s.q q).rd
def ncSend (p : Nat) : Nat → (Nat → Nat) → Nc → List (List Nat) → (Nat → Nat) × Nc × List (List Nat)
  | 0, f, s, acc => (f, s, acc)
  | k + 1, f, s, acc =>
    match ncNext p f s.p.q1.r with
    | (e, none) => if e = 0 then (f, s.bw false, acc) else (f, s.fail, acc)
    | (_, some (c, l)) =>
      match ncFrame f l with
      | none => (f, s.fail, acc)
      | some b => if (ncAns p f s.p 1 c l []).2.2 = true then ncSend p k (ncAns p f s.p 1 c l []).1 (s.pw (ncAns p f s.p 1 c l []).2.1) (acc ++ [b]) else ((ncAns p f s.p 1 c l []).1, s.pw (ncAns p f s.p 1 c l []).2.1, acc ++ [b])
def sendV (p : Nat) (f : Nat → Nat) (s : Nc) : (Nat → Nat) × Nc × List (List Nat) :=
  if (s.be && ncWorks s.p 1) = true then ncSend p 4 f s [] else (f, s, [])
def headL : List Nat := [0, 0, 0, 0, 0, 0, 0, 0, 0, 0, 1, 0]
def takeV (p : Nat) (f : Nat → Nat) (s : Nc) (b : List Nat) : (Nat → Nat) × Nc × Bool × Nat :=
  if isFr (b.length : Int) = true then
    (if ncWorks s.p 0 = true then
      (match ncNext p f s.p.q0.r with
       | (e, none) => if e = 0 then (f, s.lost, false, 0) else (f, s.fail.lost, false, 0)
       | (_, some (c, l)) =>
         if roomV true 0 l < ((12 + b.length : Nat) : Int) then ((ncAns p f s.p 0 c l []).1, (s.pw (ncAns p f s.p 0 c l []).2.1).lost, false, 0)
         else ((ncAns p f s.p 0 c l (headL ++ b)).1, s.pw (ncAns p f s.p 0 c l (headL ++ b)).2.1, true, 0))
     else (f, s.lost, false, 0))
  else (f, zeroNc, false, 2)
end Go.Proofs.YtbggkoahofnnjaaGreatDoor
namespace Go.Proofs.YtbggkoahofnnjaaGreatDoor
open Go.RowKit
def wordL (g : Nat → Nat → Nat) : Nat → Nat → Nat
  | 0, _ => 0
  | k + 1, a => if atOf (g k 0) = a then g k 1 else wordL g k a
theorem numB_lv (v j : Nat) (hj : j < 4) : ((numB v 4)[j]?).getD 0 = v / 256 ^ j % 256 := by
  unfold numB
  rw [List.getElem?_map, List.getElem?_range hj]
  rfl
theorem laid_byte (g : Nat → Nat → Nat) : ∀ (k x : Nat), laidW g k x = wordL g k (x / 4 * 4) / 256 ^ (x % 4) % 256
  | 0, x => by show 0 = 0 / _ % _; simp
  | k + 1, x => by
    show wroteF (laidW g k) (atOf (g k 0)) (numB (g k 1) 4) x = (if atOf (g k 0) = x / 4 * 4 then g k 1 else wordL g k (x / 4 * 4)) / 256 ^ (x % 4) % 256
    have ha : atOf (g k 0) % 4 = 0 := by unfold atOf; omega
    unfold wroteF
    rw [numB_len]
    by_cases h : atOf (g k 0) = x / 4 * 4
    · rw [if_pos (by omega), if_pos h, numB_lv _ _ (by omega), show x - atOf (g k 0) = x % 4 by omega]
    · rw [if_neg (by omega), if_neg h, laid_byte g k x]
theorem split4 (v : Nat) (hv : v < 4294967296) : v / 256 ^ 0 % 256 + v / 256 ^ 1 % 256 * 256 + v / 256 ^ 2 % 256 * 65536 + v / 256 ^ 3 % 256 * 16777216 = v := by
  simp only [Nat.pow_zero, Nat.div_one, Nat.pow_one, Nat.reducePow]; omega
theorem numF_four (f : Nat → Nat) (a : Nat) : numF f a 4 = f (a + 0) + f (a + 1) * 256 + f (a + 2) * 65536 + f (a + 3) * 16777216 := by
  simp only [numF, Nat.pow_zero, Nat.mul_one, Nat.zero_add, Nat.pow_one, Nat.reducePow]
theorem numF_two (f : Nat → Nat) (a : Nat) : numF f a 2 = f (a + 0) + f (a + 1) * 256 := by
  simp only [numF, Nat.pow_zero, Nat.mul_one, Nat.zero_add, Nat.pow_one, Nat.reducePow]
structure WordAt (f : Nat → Nat) (a v : Nat) : Prop where
  b0 : f (a + 0) = v / 256 ^ 0 % 256
  b1 : f (a + 1) = v / 256 ^ 1 % 256
  b2 : f (a + 2) = v / 256 ^ 2 % 256
  b3 : f (a + 3) = v / 256 ^ 3 % 256
theorem WordAt.num {f : Nat → Nat} {a v : Nat} (h : WordAt f a v) (hv : v < 4294967296) : numF f a 4 = v := by
  rw [numF_four, h.b0, h.b1, h.b2, h.b3, split4 v hv]
theorem WordAt.lo {f : Nat → Nat} {a v : Nat} (h : WordAt f a v) : numF f a 2 = v % 65536 := by
  rw [numF_two, h.b0, h.b1]
  simp only [Nat.pow_zero, Nat.div_one, Nat.pow_one]; omega
theorem WordAt.hi {f : Nat → Nat} {a v : Nat} (h : WordAt f a v) : numF f (a + 2) 2 = v / 65536 % 65536 := by
  rw [numF_two, show a + 2 + 0 = a + 2 from rfl, show a + 2 + 1 = a + 3 from rfl, h.b2, h.b3]
  simp only [Nat.reducePow]; omega
theorem WordAt.laid (g : Nat → Nat → Nat) (k a : Nat) (ha : a % 4 = 0) : WordAt (laidW g k) a (wordL g k a) := by
  refine ⟨?_, ?_, ?_, ?_⟩
  all_goals rw [laid_byte]
  · rw [show (a + 0) / 4 * 4 = a by omega, show (a + 0) % 4 = 0 by omega]
  · rw [show (a + 1) / 4 * 4 = a by omega, show (a + 1) % 4 = 1 by omega]
  · rw [show (a + 2) / 4 * 4 = a by omega, show (a + 2) % 4 = 2 by omega]
  · rw [show (a + 3) / 4 * 4 = a by omega, show (a + 3) % 4 = 3 by omega]
theorem WordAt.before {f : Nat → Nat} {a v b : Nat} {l : List Nat} (h : WordAt f a v) (hb : a + 4 ≤ b) : WordAt (wroteF f b l) a v := by
  refine ⟨?_, ?_, ?_, ?_⟩
  · unfold wroteF; rw [if_neg (by omega)]; exact h.b0
  · unfold wroteF; rw [if_neg (by omega)]; exact h.b1
  · unfold wroteF; rw [if_neg (by omega)]; exact h.b2
  · unfold wroteF; rw [if_neg (by omega)]; exact h.b3
def lR (la pu : Nat) : Rg := ⟨4, 2147483648, 2147483904, 2147484160, la, pu⟩
theorem WordAt.lies (g : Nat → Nat → Nat) (k a v : Nat) (ha : a % 4 = 0) (hv : wordL g k a = v) : WordAt (laidW g k) a v := hv ▸ WordAt.laid g k a ha
theorem lR_ok {la pu : Nat} (h1 : la < 65536) (h2 : pu < 65536) : (lR la pu).Ok := ⟨by show (_ : Int) ≤ 4; decide, by show (4 : Int) ≤ _; decide, by show 2147483648 < _; decide, by show 2147483904 < _; decide, by show 2147484160 < _; decide, h1, h2⟩
def lvN (q la pu ir : Nat) : V := if q = 0 then ⟨15, 0, 0, 0, ir, 0, 1, ⟨true, lR la pu⟩, zeroQu⟩ else ⟨15, 0, 0, 0, ir, 0, 1, zeroQu, ⟨true, lR la pu⟩⟩
theorem lvN_ok {q la pu ir : Nat} (h1 : la < 65536) (h2 : pu < 65536) (h3 : ir < 4294967296) : (lvN q la pu ir).Ok := by
  unfold lvN
  split
  · exact ⟨by show 15 < _; decide, by show 0 < _; decide, by show 0 < _; decide, by show 0 < _; decide, h3, by show 0 < _; decide, by show 1 < _; decide, lR_ok h1 h2, zeroRg_ok⟩
  · exact ⟨by show 15 < _; decide, by show 0 < _; decide, by show 0 < _; decide, by show 0 < _; decide, h3, by show 0 < _; decide, by show 1 < _; decide, zeroRg_ok, lR_ok h1 h2⟩
def lvS (q : Nat) : Nc := ⟨lvN q 0 0 0, true, 0⟩
theorem lvS_ok (q : Nat) : (lvS q).Ok := ⟨lvN_ok (by decide) (by decide) (by decide), by show 0 < _; decide⟩
structure Off2 (f : Nat → Nat) (a0 n0 x0 a1 n1 x1 : Nat) : Prop where
  cnt : WordAt f 256 65536
  hed : WordAt f 260 0
  d00 : WordAt f 0 a0
  d01 : WordAt f 4 0
  d02 : WordAt f 8 n0
  d03 : WordAt f 12 x0
  d10 : WordAt f 16 a1
  d11 : WordAt f 20 0
  d12 : WordAt f 24 n1
  d13 : WordAt f 28 x1
def suG : Nat → Nat → Nat
  | 0, 0 => 0 | 0, _ => 2147484416 | 1, 0 => 8 | 1, _ => 13 | 2, 0 => 256 | 2, _ => 65536 | _, 0 => 780 | _, _ => 7
def suF : Nat → Nat := laidW suG 4
theorem su_send : (sendV 2 suF (lvS 1)).2 = (⟨lvN 1 1 1 1, false, 0⟩, [[7]]) := by kernel_rfl
end Go.Proofs.YtbggkoahofnnjaaGreatDoor
namespace Go.Proofs.YtbggkoahofnnjaaGreatDoor
open Go.RowKit
theorem Nc.at0 (s : Nc) : s.c[0]? = some (.int .u32 (s.p.st : Nat)) := rfl
theorem Nc.at1 (s : Nc) : s.c[1]? = some (.int .u32 (s.p.fs : Nat)) := rfl
theorem Nc.at2 (s : Nc) : s.c[2]? = some (.int .u32 (s.p.ds : Nat)) := rfl
theorem Nc.at3 (s : Nc) : s.c[3]? = some (.int .u32 (s.p.se : Nat)) := rfl
theorem Nc.at4 (s : Nc) : s.c[4]? = some (.int .u32 (s.p.ir : Nat)) := rfl
theorem Nc.at5 (s : Nc) : s.c[5]? = some (.int .u32 (s.p.d0 : Nat)) := rfl
theorem Nc.at6 (s : Nc) : s.c[6]? = some (.int .u32 (s.p.d1 : Nat)) := rfl
theorem Nc.at7 (s : Nc) : s.c[7]? = some (.bool s.p.q0.rd) := rfl
theorem Nc.at8 (s : Nc) : s.c[8]? = some (.int .i64 s.p.q0.r.sz) := rfl
theorem Nc.at9 (s : Nc) : s.c[9]? = some (.int .u32 (s.p.q0.r.de : Nat)) := rfl
theorem Nc.at10 (s : Nc) : s.c[10]? = some (.int .u32 (s.p.q0.r.av : Nat)) := rfl
theorem Nc.at11 (s : Nc) : s.c[11]? = some (.int .u32 (s.p.q0.r.us : Nat)) := rfl
theorem Nc.at12 (s : Nc) : s.c[12]? = some (.int .u16 (s.p.q0.r.la : Nat)) := rfl
theorem Nc.at13 (s : Nc) : s.c[13]? = some (.int .u16 (s.p.q0.r.pu : Nat)) := rfl
theorem Nc.at14 (s : Nc) : s.c[14]? = some (.bool s.p.q1.rd) := rfl
theorem Nc.at15 (s : Nc) : s.c[15]? = some (.int .i64 s.p.q1.r.sz) := rfl
theorem Nc.at16 (s : Nc) : s.c[16]? = some (.int .u32 (s.p.q1.r.de : Nat)) := rfl
theorem Nc.at17 (s : Nc) : s.c[17]? = some (.int .u32 (s.p.q1.r.av : Nat)) := rfl
theorem Nc.at18 (s : Nc) : s.c[18]? = some (.int .u32 (s.p.q1.r.us : Nat)) := rfl
theorem Nc.at19 (s : Nc) : s.c[19]? = some (.int .u16 (s.p.q1.r.la : Nat)) := rfl
theorem Nc.at20 (s : Nc) : s.c[20]? = some (.int .u16 (s.p.q1.r.pu : Nat)) := rfl
theorem Nc.at21 (s : Nc) : s.c[21]? = some (.bool s.be) := rfl
theorem Nc.at22 (s : Nc) : s.c[22]? = some (.int .u32 (s.lo : Nat)) := rfl
theorem Nc.ones (s : Nc) : s.c.all (·.oneCell') = true := by simp [Nc.c, V.cells, Value.oneCell']
theorem Cn.at0 (s : Cn) (v : Value) : (s.c v)[0]? = some (.int .i64 s.r.sz) := rfl
theorem Cn.at1 (s : Cn) (v : Value) : (s.c v)[1]? = some (.int .u32 (s.r.de : Nat)) := rfl
theorem Cn.at2 (s : Cn) (v : Value) : (s.c v)[2]? = some (.int .u32 (s.r.av : Nat)) := rfl
theorem Cn.at3 (s : Cn) (v : Value) : (s.c v)[3]? = some (.int .u32 (s.r.us : Nat)) := rfl
theorem Cn.at4 (s : Cn) (v : Value) : (s.c v)[4]? = some (.int .u16 (s.r.la : Nat)) := rfl
theorem Cn.at5 (s : Cn) (v : Value) : (s.c v)[5]? = some (.int .u16 (s.r.pu : Nat)) := rfl
theorem Cn.at6 (s : Cn) (v : Value) : (s.c v)[6]? = some (.int .i64 s.hd) := rfl
theorem Cn.at7 (s : Cn) (v : Value) : (s.c v)[7]? = some (v) := rfl
theorem Cn.ones (s : Cn) (v : Value) (hv : v.oneCell' = true) : (s.c v).all (·.oneCell') = true := by simp [Cn.c, Rg.cells, Value.oneCell'] ; simpa [Value.oneCell'] using hv
theorem ext_np (s : Nc) : (s.c.extract 0 (0 + s.p.cells.size)).toList = s.p.cells.toList := by kernel_rfl
theorem ext_nr1 (s : Nc) : (s.c.extract 15 (15 + s.p.q1.r.cells.size)).toList = s.p.q1.r.cells.toList := by kernel_rfl
theorem ext_cr (s : Cn) (v : Value) : ((s.c v).extract 0 (0 + s.r.cells.size)).toList = s.r.cells.toList := by kernel_rfl
theorem putAll_np (s : Nc) (p : V) : putAll s.c 0 p.cells.toList = (s.pw p).c := by kernel_rfl
theorem putAll_v1 (s : V) (r : Rg) : putAll s.cells 15 r.cells.toList = (s.qw 1 ((s.q 1).rw' r)).cells := by kernel_rfl
variable {ops : Array Oper} {rest : List Oper} {dst : Option Tmp} {ty : TypeId} {pos : String} {after : Array Edge} {a : Act} {w : World} {Q : Exit → Act → World → Prop} {x y : Operand} {b : Nat} {S : World → Prop} {K : Act → World → Prop} {gd : Option (Nat × Bool)}
theorem size_nc : (prog.info? 41).map (·.size) = some 23 := by kernel_rfl
theorem zero_nc (w : World) : (zeroValue 41).run prog w = .ok (.agg zeroNc.c) w :=
  (zero_of_info (P := prog) (t := 41) (v := .agg zeroNc.c) (n := 23) (by kernel_rfl)).1 w
theorem bx_nc (N : Nat) (h : Nc) (hN : w.heap.size = N) (hx : a.eval x = .agg h.c)
    (k : ∀ W, RowAt W N h.c 41 → Below N w W → Hid (W.heap.size = N + 1) → wpList prog ops Q rest (a.put dst (.pointer (some ⟨N, 0, none⟩))) W) :
    wpList prog ops Q (⟨dst, .box 41 x, ty, pos, after, none⟩ :: rest) a w := op_box N hN h.c hx k
theorem al_nc (N : Nat) (hN : w.heap.size = N)
    (k : ∀ W, RowAt W N zeroNc.c 41 → Below N w W → Hid (W.heap.size = N + 1) → wpList prog ops Q rest (a.put dst (.pointer (some ⟨N, 0, none⟩))) W) :
    wpList prog ops Q (⟨dst, .alloc 41, ty, pos, after, none⟩ :: rest) a w := op_alloc N hN zeroNc.c zero_nc k
theorem ld_nc (b : Nat) (h : Nc) (hr : RowAt w b h.c 41) (hx : a.eval x = .pointer (some ⟨b, 0, none⟩)) (hw : Region.wanted ⟨dst, .load 41 x, ty, pos, after, gd⟩ (yielded ops a.tmps) = true)
    (k : wpList prog ops Q rest (a.put dst (.agg h.c)) w) : wpList prog ops Q (⟨dst, .load 41 x, ty, pos, after, gd⟩ :: rest) a w :=
  BigFrame.wpList_want hw fun K hK => wp_load_row 41 x rfl b hx _ h.c (0, 0) _ hr underlying41 rfl size_nc (hK _ _ k)
theorem st_nc (b : Nat) (old : Nc) (h : Nc) (hr : RowAt w b old.c 41) (hx : a.eval x = .pointer (some ⟨b, 0, none⟩)) (hy : a.eval y = .agg h.c)
    (k : ∀ W, RowAt W b h.c 41 → Only b w W → wpList prog ops Q rest (a.put dst undef) W) : wpList prog ops Q (⟨dst, .store 41 x y, ty, pos, after, none⟩ :: rest) a w :=
  op_store b hx h.c hy old.c _ hr size_nc rfl h.ones k
theorem y_nc (b : Nat) (h : Nc) (hS : ∀ V, S V → RowAt V b h.c 41) (hx : a.eval x = .pointer (some ⟨b, 0, none⟩)) (hw : Region.wanted ⟨dst, .load 41 x, ty, pos, after, gd⟩ (yielded ops a.tmps) = true) :
    YieldsIf prog ops S ⟨dst, .load 41 x, ty, pos, after, gd⟩ (.agg h.c) a := by
  rcases y_load (ops := ops) (P := prog) (t := 41) (dst := dst) (ty := ty) (after := after) (a := a) (x := x) (pos := pos) (S := S) b h.c _ hS _ underlying41 rfl size_nc hx with ⟨_, h2⟩ | ⟨h1, _⟩
  · exact .inl ⟨hw, fun V hV => h2 V hV⟩
  · simp [Region.wanted] at h1
theorem s_nc (b : Nat) (old : Nc) (h : Nc) (hr : RowAt w b old.c 41) (hx : a.eval x = .pointer (some ⟨b, 0, none⟩)) (hy : a.eval y = .agg h.c)
    (k : ∀ W, RowAt W b h.c 41 → Only b w W → K (a.put dst undef) W) :
    Oper.wp prog ⟨dst, .store 41 x y, ty, pos, after, none⟩ a w K Q :=
  s_store b hx h.c hy old.c _ hr size_nc rfl h.ones k
theorem size_cn : (prog.info? 104).map (·.size) = some 8 := by kernel_rfl
theorem zero_cn (w : World) : (zeroValue 104).run prog w = .ok (.agg (zeroCn.c nilS)) w :=
  (zero_of_info (P := prog) (t := 104) (v := .agg (zeroCn.c nilS)) (n := 8) (by kernel_rfl)).1 w
theorem bx_cn (N : Nat) (h : Cn) (v : Value) (hN : w.heap.size = N) (hx : a.eval x = .agg (h.c v))
    (k : ∀ W, RowAt W N (h.c v) 104 → Below N w W → Hid (W.heap.size = N + 1) → wpList prog ops Q rest (a.put dst (.pointer (some ⟨N, 0, none⟩))) W) :
    wpList prog ops Q (⟨dst, .box 104 x, ty, pos, after, none⟩ :: rest) a w := op_box N hN (h.c v) hx k
theorem al_cn (N : Nat) (hN : w.heap.size = N)
    (k : ∀ W, RowAt W N (zeroCn.c nilS) 104 → Below N w W → Hid (W.heap.size = N + 1) → wpList prog ops Q rest (a.put dst (.pointer (some ⟨N, 0, none⟩))) W) :
    wpList prog ops Q (⟨dst, .alloc 104, ty, pos, after, none⟩ :: rest) a w := op_alloc N hN (zeroCn.c nilS) zero_cn k
theorem ld_cn (b : Nat) (h : Cn) (v : Value) (hr : RowAt w b (h.c v) 104) (hx : a.eval x = .pointer (some ⟨b, 0, none⟩)) (hw : Region.wanted ⟨dst, .load 104 x, ty, pos, after, gd⟩ (yielded ops a.tmps) = true)
    (k : wpList prog ops Q rest (a.put dst (.agg (h.c v))) w) : wpList prog ops Q (⟨dst, .load 104 x, ty, pos, after, gd⟩ :: rest) a w :=
  BigFrame.wpList_want hw fun K hK => wp_load_row 104 x rfl b hx _ (h.c v) (0, 0) _ hr underlying104 rfl size_cn (hK _ _ k)
theorem st_cn (b : Nat) (old : Cn) (ov : Value) (h : Cn) (v : Value) (hv : v.oneCell' = true) (hr : RowAt w b (old.c ov) 104) (hx : a.eval x = .pointer (some ⟨b, 0, none⟩)) (hy : a.eval y = .agg (h.c v))
    (k : ∀ W, RowAt W b (h.c v) 104 → Only b w W → wpList prog ops Q rest (a.put dst undef) W) : wpList prog ops Q (⟨dst, .store 104 x y, ty, pos, after, none⟩ :: rest) a w :=
  op_store b hx (h.c v) hy (old.c ov) _ hr size_cn rfl (h.ones v hv) k
theorem ld_np (b : Nat) (h : Nc) (t' : TypeId) (hr : RowAt w b h.c t') (hx : a.eval x = .pointer (some ⟨b, 0, none⟩)) (hw : Region.wanted ⟨dst, .load 39 x, ty, pos, after, gd⟩ (yielded ops a.tmps) = true)
    (k : wpList prog ops Q rest (a.put dst (.agg h.p.cells)) w) : wpList prog ops Q (⟨dst, .load 39 x, ty, pos, after, gd⟩ :: rest) a w :=
  BigFrame.wpList_want hw fun K hK => wp_load_mid 39 x rfl b 0 hx h.p.cells.toList _ (ext_np h ▸ World.rangeAt_of_block hr 0 h.p.cells.size) underlying39 rfl size_vp (hK _ _ k)
theorem ld_nr1 (b : Nat) (h : Nc) (t' : TypeId) (hr : RowAt w b h.c t') (hx : a.eval x = .pointer (some ⟨b, 15, none⟩)) (hw : Region.wanted ⟨dst, .load 34 x, ty, pos, after, gd⟩ (yielded ops a.tmps) = true)
    (k : wpList prog ops Q rest (a.put dst (.agg h.p.q1.r.cells)) w) : wpList prog ops Q (⟨dst, .load 34 x, ty, pos, after, gd⟩ :: rest) a w :=
  BigFrame.wpList_want hw fun K hK => wp_load_mid 34 x rfl b 15 hx h.p.q1.r.cells.toList _ (ext_nr1 h ▸ World.rangeAt_of_block hr 15 h.p.q1.r.cells.size) underlying34 rfl size_rp (hK _ _ k)
theorem ld_cr (b : Nat) (h : Cn) (v : Value) (t' : TypeId) (hr : RowAt w b (h.c v) t') (hx : a.eval x = .pointer (some ⟨b, 0, none⟩)) (hw : Region.wanted ⟨dst, .load 34 x, ty, pos, after, gd⟩ (yielded ops a.tmps) = true)
    (k : wpList prog ops Q rest (a.put dst (.agg h.r.cells)) w) : wpList prog ops Q (⟨dst, .load 34 x, ty, pos, after, gd⟩ :: rest) a w :=
  BigFrame.wpList_want hw fun K hK => wp_load_mid 34 x rfl b 0 hx h.r.cells.toList _ (ext_cr h v ▸ World.rangeAt_of_block hr 0 h.r.cells.size) underlying34 rfl size_rp (hK _ _ k)
theorem st_np (b : Nat) (h : Nc) (f : V) (t' : TypeId) (hr : RowAt w b h.c t') (hx : a.eval x = .pointer (some ⟨b, 0, none⟩)) (hy : a.eval y = .agg f.cells)
    (k : ∀ W, RowAt W b (h.pw f).c t' → Only b w W → wpList prog ops Q rest (a.put dst undef) W) : wpList prog ops Q (⟨dst, .store 39 x y, ty, pos, after, none⟩ :: rest) a w :=
  op_store_mid b 0 hx f.cells hy h.c _ _ hr size_vp (by show 0 + 21 ≤ 23; decide) (vi_one f) (putAll_np h f) k
theorem st_v1 (b : Nat) (h : V) (f : Rg) (t' : TypeId) (hr : RowAt w b h.cells t') (hx : a.eval x = .pointer (some ⟨b, 15, none⟩)) (hy : a.eval y = .agg f.cells)
    (k : ∀ W, RowAt W b (h.qw 1 ((h.q 1).rw' f)).cells t' → Only b w W → wpList prog ops Q rest (a.put dst undef) W) : wpList prog ops Q (⟨dst, .store 34 x y, ty, pos, after, none⟩ :: rest) a w :=
  op_store_mid b 15 hx f.cells hy h.cells _ _ hr size_rp (by show 15 + 6 ≤ 21; decide) (rg_one f) (putAll_v1 h f) k
theorem ld_nbe (b : Nat) (h : Nc) (t' : TypeId) (hr : RowAt w b h.c t') (hx : a.eval x = .pointer (some ⟨b, 21, none⟩)) (hw : Region.wanted ⟨dst, .load 4 x, ty, pos, after, gd⟩ (yielded ops a.tmps) = true)
    (k : wpList prog ops Q rest (a.put dst (.bool h.be)) w) : wpList prog ops Q (⟨dst, .load 4 x, ty, pos, after, gd⟩ :: rest) a w :=
  op_load_cellg b 21 hx h.c _ _ hr rfl _ underlying4 rfl hw k
theorem st_nbe (b : Nat) (h : Nc) (n : Bool) (t' : TypeId) (hr : RowAt w b h.c t') (hx : a.eval x = .pointer (some ⟨b, 21, none⟩)) (hy : a.eval y = .bool n)
    (k : ∀ W, RowAt W b ((h.bw n).c) t' → Only b w W → wpList prog ops Q rest (a.put dst undef) W) : wpList prog ops Q (⟨dst, .store 4 x y, ty, pos, after, none⟩ :: rest) a w :=
  op_store_cell b 21 hx _ hy h.c _ _ hr size_boi (by show 21 < 23; decide) rfl rfl k
theorem ld_nlo (b : Nat) (h : Nc) (t' : TypeId) (hr : RowAt w b h.c t') (hx : a.eval x = .pointer (some ⟨b, 22, none⟩)) (hw : Region.wanted ⟨dst, .load 22 x, ty, pos, after, gd⟩ (yielded ops a.tmps) = true)
    (k : wpList prog ops Q rest (a.put dst (.int .u32 (h.lo : Nat))) w) : wpList prog ops Q (⟨dst, .load 22 x, ty, pos, after, gd⟩ :: rest) a w :=
  op_load_cellg b 22 hx h.c _ _ hr rfl _ underlying22 rfl hw k
theorem st_nlo (b : Nat) (h : Nc) (n : Nat) (t' : TypeId) (hr : RowAt w b h.c t') (hx : a.eval x = .pointer (some ⟨b, 22, none⟩)) (hy : a.eval y = .int .u32 (n : Nat))
    (k : ∀ W, RowAt W b ((h.lw n).c) t' → Only b w W → wpList prog ops Q rest (a.put dst undef) W) : wpList prog ops Q (⟨dst, .store 22 x y, ty, pos, after, none⟩ :: rest) a w :=
  op_store_cell b 22 hx _ hy h.c _ _ hr size_u32i (by show 22 < 23; decide) rfl rfl k
theorem ld_chd (b : Nat) (h : Cn) (v : Value) (t' : TypeId) (hr : RowAt w b (h.c v) t') (hx : a.eval x = .pointer (some ⟨b, 6, none⟩)) (hw : Region.wanted ⟨dst, .load 3 x, ty, pos, after, gd⟩ (yielded ops a.tmps) = true)
    (k : wpList prog ops Q rest (a.put dst (.int .i64 h.hd)) w) : wpList prog ops Q (⟨dst, .load 3 x, ty, pos, after, gd⟩ :: rest) a w :=
  op_load_cellg b 6 hx (h.c v) _ _ hr rfl _ underlying3 rfl hw k
theorem ld_cps (b : Nat) (h : Cn) (v : Value) (t' : TypeId) (hr : RowAt w b (h.c v) t') (hx : a.eval x = .pointer (some ⟨b, 7, none⟩)) (hw : Region.wanted ⟨dst, .load 102 x, ty, pos, after, gd⟩ (yielded ops a.tmps) = true)
    (k : wpList prog ops Q rest (a.put dst (v)) w) : wpList prog ops Q (⟨dst, .load 102 x, ty, pos, after, gd⟩ :: rest) a w :=
  op_load_cellg b 7 hx (h.c v) _ _ hr rfl _ underlying102 rfl hw k
end Go.Proofs.YtbggkoahofnnjaaGreatDoor
namespace Go.Proofs.YtbggkoahofnnjaaGreatDoor
open Go.RowKit
variable {ops : Array Oper} {rest : List Oper} {dst : Option Tmp} {ty : TypeId} {pos : String} {after : Array Edge} {a : Act} {w : World} {Q : Exit → Act → World → Prop} {K : Act → World → Prop} {x y : Operand} {gd : Option (Nat × Bool)}
end Go.Proofs.YtbggkoahofnnjaaGreatDoor
namespace Go.Proofs.YtbggkoahofnnjaaGreatDoor
open Go.RowKit
def isOw (a : Nat) : Bool := decide (256 ≤ a) && (decide (a < 512) && decide (a % 4 = 0))
def nReadV (s : Nc) (a : Nat) : Nat × Nat := if a = 256 then (s.lo, 0) else if isOw a = true then (0, 0) else if 256 ≤ a then (0, 20) else vreadV s.p 1 a
def nWr (s : Nc) (p : V) (n : Int) : Nc := if p.st = 0 then ⟨p, false, 0⟩ else if n = 1 then ⟨p, true, s.lo⟩ else ⟨p, s.be, s.lo⟩
def nWriteV (s : Nc) (a v : Nat) : Nc × Nat := if isOw a = true then (s, 0) else if 256 ≤ a then (zeroNc, 20) else if (writeV s.p a v).2.2 = 0 then (nWr s (writeV s.p a v).1 (writeV s.p a v).2.1, 0) else (zeroNc, (writeV s.p a v).2.2)
theorem isOw_lo {a : Nat} (h : a < 256) : isOw a = false := by unfold isOw; rw [decide_eq_false (by omega)]; rfl
end Go.Proofs.YtbggkoahofnnjaaGreatDoor
