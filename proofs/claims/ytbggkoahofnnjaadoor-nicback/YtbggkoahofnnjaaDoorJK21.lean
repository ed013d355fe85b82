/-
  What ring's Give does, where head and number can be stored.
-/
import Derived.Test.YtbggkoahofnnjaaDoorJK15
namespace Go.Proofs.YtbggkoahofnnjaaDoor
open Go.RowKit
set_option linter.unusedVariables false
set_option linter.unusedSimpArgs false

attribute [local go_sem] Rg.at0 Rg.at1 Rg.at2 Rg.at3 Rg.at4 Rg.at5
def usH (r : Rg) : Nat := t32 (r.us + 4 + 8 * slotN r r.pu)
def usN (r : Rg) : Nat := t32 (usH r + 4)
def usC (r : Rg) : Nat := t32 (r.us + 2)
def givenR (r : Rg) : Rg := { r with pu := (r.pu + 1) % 65536 }
def giveF (r : Rg) (f : Nat → Nat) (h n : Nat) : Nat → Nat :=
  wroteF (wroteF (wroteF f (plM (usH r)) (numB h 4)) (plM (usN r)) (numB n 4)) (plM (usC r)) (numB ((r.pu + 1) % 65536) 2)
theorem usN_in {r : Rg} {p : Nat} (hp : p ≤ 16384) (h : plB p (usH r) 8 = true) : plM (usN r) = plM (usH r) + 4 ∧ plB p (usN r) 4 = true ∧ plB p (usH r) 4 = true := by
  have h1 := plB_in h (by decide)
  have hl : usH r < 4294967296 := Nat.mod_lt _ (by decide)
  have e : plM (usN r) = plM (usH r) + 4 := by
    unfold usN t32 plM at *
    split at h1 <;> split <;> omega
  refine ⟨e, ?_, ?_⟩
  · unfold plB; rw [e]; exact decide_eq_true (by omega)
  · unfold plB; exact decide_eq_true (by omega)
set_option maxHeartbeats 2000000 in
theorem give_ok (r : Rg) (hr0 : r.Ok) (hc : chkR r = true) {w : World} {B b p c : Nat} {f : Nat → Nat} {O : Nat → Prop} (h : RamB w B b p f c O) (hA : AreasAt w) (hG : 0 < B) (hd n : Nat) (hh : (hd : Int) < r.sz) (hn : n < 4294967296) (h1 : plB p (usH r) 8 = true) (h3 : plB p (usC r) 2 = true) (hcc : c ≤ 900000000) :
    Calls Tryd.prog 33 #[.agg r.cells, .pointer (some ⟨b, 0, none⟩), .int .i64 (hd : Nat), .int .u32 (n : Nat)] w fun e w' => e = .returned (.tuple #[.agg (givenR r).cells, .nilIface]) ∧ ∃ O', RamB w' B b p (giveF r f hd n) (c + 1 + 1 + 1) O' ∧ Went B O O' w w' := by
  have hB0 := h.base
  have hGw : 0 < w.heap.size := Nat.lt_of_lt_of_le hG hB0
  have hA0 := hA
  clear hA
  obtain ⟨k, hk, hk0, hk1⟩ := chkR_sz hc
  obtain ⟨al1, al2, al3⟩ := chkR_al hc
  have HC : Hid (∀ W, Calls Tryd.prog 42 #[.agg r.cells, .pointer (some ⟨b, 0, none⟩)] W fun e w' => e = .returned .nilIface ∧ Below W.heap.size W w') := hide (fun W => by have := rcheckw_any r hr0 b W; rw [hc] at this; exact this)
  have hpu := hr0.pu
  have hus := hr0.us
  have hfew := h.few
  obtain ⟨q1, q2, q3⟩ := usN_in hfew h1
  have hdl : hd < 256 := by omega
  have hsl := slotN_lt hc r.pu
  have b1 : usH r < 4294967296 ∧ usN r < 4294967296 ∧ usC r < 4294967296 := ⟨Nat.mod_lt _ (by decide), Nat.mod_lt _ (by decide), Nat.mod_lt _ (by decide)⟩
  have b2 : usH r % 4 = 0 ∧ usN r % 4 = 0 ∧ usC r % 2 = 0 := by unfold usN usC usH t32; omega
  have HH : Hid (∀ W, Calls Tryd.prog 51 #[.agg r.cells, .int .i64 (hd : Nat)] W fun e w' => e = .returned (.bool true) ∧ Below W.heap.size W w') := hide (fun W => by have := ishead_any r (hd : Int) W; rwa [decide_eq_true (by omega)] at this)
  have HS : Hid (∀ W, Calls Tryd.prog 44 #[.agg r.cells, .int .u16 (r.pu : Nat)] W fun e w' => e = .returned (.int .u32 (slotN r r.pu : Nat)) ∧ Below W.heap.size W w') := hide (fun W => slot_any r hc r.pu hpu W)
  have HN : Hid (∀ W O1, RamB W B b p f c O1 → AreasAt W → Calls Tryd.prog 52 #[.pointer (some ⟨b, 0, none⟩), .int .u32 (usH r : Nat), .int .u64 8] W fun e w' => e = .returned (.bool true) ∧ Below W.heap.size W w') := hide (fun W O1 hM hA => by have := isin_b hM hA (usH r) 8 b1.1 (by decide); rwa [h1] at this)
  have H1 : Hid (∀ W O1, RamB W B b p (f) (c) O1 → AreasAt W → Calls Tryd.prog 53 #[.pointer (some ⟨b, 0, none⟩), .int .u32 (usH r : Nat), .int .i64 4, .int .u32 (hd : Nat)] W fun e w' => e = .returned .nilIface ∧ ∃ O', RamB w' B b p (wroteF f (plM (usH r)) (numB hd 4)) (c + 1) O' ∧ Went B O1 O' W w') := hide (fun W O1 hM hA => rstore_yes hM hA hG (usH r) 4 b1.1 (by decide) b2.1 q3 hd (by omega) (by omega))
  have H2 : Hid (∀ W O1, RamB W B b p (wroteF f (plM (usH r)) (numB hd 4)) (c + 1) O1 → AreasAt W → Calls Tryd.prog 53 #[.pointer (some ⟨b, 0, none⟩), .int .u32 (usN r : Nat), .int .i64 4, .int .u32 (n : Nat)] W fun e w' => e = .returned .nilIface ∧ ∃ O', RamB w' B b p (wroteF (wroteF f (plM (usH r)) (numB hd 4)) (plM (usN r)) (numB n 4)) (c + 1 + 1) O' ∧ Went B O1 O' W w') := hide (fun W O1 hM hA => rstore_yes hM hA hG (usN r) 4 b1.2.1 (by decide) b2.2.1 q2 n hn (by omega))
  have H3 : Hid (∀ W O1, RamB W B b p (wroteF (wroteF f (plM (usH r)) (numB hd 4)) (plM (usN r)) (numB n 4)) (c + 1 + 1) O1 → AreasAt W → Calls Tryd.prog 53 #[.pointer (some ⟨b, 0, none⟩), .int .u32 (usC r : Nat), .int .i64 2, .int .u32 ((r.pu + 1) % 65536 : Nat)] W fun e w' => e = .returned .nilIface ∧ ∃ O', RamB w' B b p (giveF r f hd n) (c + 1 + 1 + 1) O' ∧ Went B O1 O' W w') := hide (fun W O1 hM hA => rstore_yes hM hA hG (usC r) 2 b1.2.2 (by decide) b2.2.2 h3 _ (by omega) (by omega))
  have e1 : ((r.us : Int) + 2) % 4294967296 = ((usC r : Nat) : Int) := by unfold usC t32; omega
  have e2 : (((r.us : Int) + 4) % 4294967296 + (8 * ((slotN r r.pu : Nat) : Int))) % 4294967296 = ((usH r : Nat) : Int) := by unfold usH t32; omega
  have en : ((usH r : Int) + 4) % 4294967296 = ((usN r : Nat) : Int) := by unfold usN t32; omega
  have en2 : IntKind.u32.wrap ((usH r : Int) + 4) = ((usN r : Nat) : Int) := by rw [IntKind.wrap_u32]; exact en
  generalize wroteF (wroteF f (plM (usH r)) (numB hd 4)) (plM (usN r)) (numB n 4) = f2 at *
  generalize wroteF f (plM (usH r)) (numB hd 4) = f1 at *
  generalize giveF r f hd n = f3 at *
  generalize usC r = aC at *
  generalize usN r = aN at *
  generalize usH r = aH at *
  generalize slotN r r.pu = sl at *
  have e3 : Hid (IntKind.u32.wrap (8 * (sl : Int)) = 8 * (sl : Int)) := hide (by rw [IntKind.wrap_u32]; omega)
  have e4 : Hid (IntKind.u32.wrap ((r.us : Int) + 4) = ((r.us : Int) + 4) % 4294967296) := hide (by rw [IntKind.wrap_u32])
  have e5 : Hid (IntKind.u32.wrap (((r.us : Int) + 4) % 4294967296 + (8 * ((sl : Nat) : Int))) = (aH : Int)) := hide (by rw [IntKind.wrap_u32]; exact e2)
  obtain ⟨pn, hpn⟩ : ∃ x, (r.pu + 1) % 65536 = x := ⟨_, rfl⟩
  have e6 : Hid (((r.pu : Int) + 1) % 65536 = (pn : Int)) := hide (by omega)
  have hpl : pn < 65536 := by omega
  have htr : ({ r with pu := pn } : Rg) = givenR r := by unfold givenR; rw [hpn]
  rw [hpn] at H3
  have hgp : (givenR r).pu = pn := hpn
  have hgu : (givenR r).us = r.us := rfl
  clear hk hr0 hc al1 al2 al3 h1 h3 q1 q2 q3 b1 b2 e2 hh hcc hpn
  go_enter Tryd.func33, Tryd.ntmps33
  go_wp2_with (first | ((with_reducible refine bx_rp w.heap.size r ?_ ?_ ?_); exact rfl; exact rfl; intro W hr hb hz) | ((with_reducible refine al_rp (w.heap.size + 1) ?_ ?_); exact hz.out; intro W hq hb' hz'; replace hr := hr.bl (hz.out ▸ hb'); replace hb := hb.trans (hb'.mono (by omega)); replace hz := hz'; have hM := h.bl hb; have hW := Went.of (O := O) hb hB0; have hA := hA0.bl hb; have hF := h.far 2; have hS : w.heap.size + 2 ≤ W.heap.size := Nat.le_of_eq hz.out.symm; have hB : B ≤ W.heap.size := Nat.le_trans hB0 hb.size; clear hb hz hb' hz') | ((with_reducible refine ld_rp w.heap.size _ hr ?_ ?_ ?_); exact rfl; exact rfl) | (go_at_call 42; (with_reducible refine (HC.out _).mono ?_); rintro e W ⟨rfl, hbc⟩; replace hM := hM.bl hbc; replace hW := hW.bl hbc hB; replace hA := hA.bl hbc; replace hB := Nat.le_trans hB hbc.size; replace hS := Nat.le_trans hS hbc.size; replace hr := hr.bl hbc; replace hq := hq.bl hbc) | (go_at_call 51; (with_reducible refine (HH.out _).mono ?_); rintro e W ⟨rfl, hbc⟩; replace hM := hM.bl hbc; replace hW := hW.bl hbc hB; replace hA := hA.bl hbc; replace hB := Nat.le_trans hB hbc.size; replace hS := Nat.le_trans hS hbc.size; replace hr := hr.bl hbc; replace hq := hq.bl hbc))
  refine wp_region_held_drew (S := (fun V => RowAt V w.heap.size r.cells 36)) (by kernel_rfl) ?_ (fun hHeld => ?_)
  · exact hr.dr
  replace hM := hM.dr
  replace hW := hW.dr
  replace hA := hA.drR
  replace hS : w.heap.size + 2 ≤ (World.drew _).heap.size := hS
  replace hB : B ≤ (World.drew _).heap.size := hB
  replace hq := hq.dr
  generalize World.drew _ = V at hHeld hM hW hA hS hB hq ⊢
  clear hr
  refine wpAnyH_take (i := 0) (oi := ?oi1) (v := .pointer (some ⟨w.heap.size, 3, none⟩)) ?hi1 (by kernel_rfl) (by kernel_rfl) (by kernel_rfl) ?hQ1 ?hy1 (by assumption) ?rest1
  case hi1 => (simp only [List.getElem?_toArray, List.getElem?_cons_zero]; rfl)
  case hQ1 => exact fun _ _ _ h => h
  case hy1 => exact Or.inl ⟨by rfl, by (intro w hSw; (try dsimp only at hSw); go_simp )⟩
  simp only [Act.put, List.setIfInBounds_toArray, List.set_cons_zero, List.set_cons_succ]
  refine wpAnyH_take (i := 1) (oi := ?oi2) (v := .int .u32 (r.us : Nat)) ?hi2 (by kernel_rfl) (by kernel_rfl) (by kernel_rfl) ?hQ2 ?hy2 (by assumption) ?rest2
  case hi2 => (simp only [List.getElem?_toArray, List.getElem?_cons_zero, List.getElem?_cons_succ]; rfl)
  case hQ2 => exact fun _ _ _ h => h
  case hy2 => exact y_rus w.heap.size r _ (fun V hV => hV) rfl
  simp only [Act.put, List.setIfInBounds_toArray, List.set_cons_zero, List.set_cons_succ]
  refine wpAnyH_take (i := 2) (oi := ?oi3) (v := .int .u32 (((r.us : Int) + 4) % 4294967296)) ?hi3 (by kernel_rfl) (by kernel_rfl) (by kernel_rfl) ?hQ3 ?hy3 (by assumption) ?rest3
  case hi3 => (simp only [List.getElem?_toArray, List.getElem?_cons_zero, List.getElem?_cons_succ]; rfl)
  case hQ3 => exact fun _ _ _ h => h
  case hy3 => exact Or.inl ⟨by rfl, by (intro w hSw; (try dsimp only at hSw); go_simp ; exact e4.out)⟩
  simp only [Act.put, List.setIfInBounds_toArray, List.set_cons_zero, List.set_cons_succ]
  refine wpAnyH_take (i := 3) (oi := ?oi4) (v := .agg r.cells) ?hi4 (by kernel_rfl) (by kernel_rfl) (by kernel_rfl) ?hQ4 ?hy4 (by assumption) ?rest4
  case hi4 => (simp only [List.getElem?_toArray, List.getElem?_cons_zero, List.getElem?_cons_succ]; rfl)
  case hQ4 => exact fun _ _ _ h => h
  case hy4 => exact y_rp w.heap.size r (fun V hV => hV) rfl rfl
  simp only [Act.put, List.setIfInBounds_toArray, List.set_cons_zero, List.set_cons_succ]
  refine wpAnyH_take (i := 4) (oi := ?oi5) (v := .pointer (some ⟨w.heap.size, 5, none⟩)) ?hi5 (by kernel_rfl) (by kernel_rfl) (by kernel_rfl) ?hQ5 ?hy5 (by assumption) ?rest5
  case hi5 => (simp only [List.getElem?_toArray, List.getElem?_cons_zero, List.getElem?_cons_succ]; rfl)
  case hQ5 => exact fun _ _ _ h => h
  case hy5 => exact Or.inl ⟨by rfl, by (intro w hSw; (try dsimp only at hSw); go_simp )⟩
  simp only [Act.put, List.setIfInBounds_toArray, List.set_cons_zero, List.set_cons_succ]
  refine wpAnyH_take (i := 5) (oi := ?oi6) (v := .int .u16 (r.pu : Nat)) ?hi6 (by kernel_rfl) (by kernel_rfl) (by kernel_rfl) ?hQ6 ?hy6 (by assumption) ?rest6
  case hi6 => (simp only [List.getElem?_toArray, List.getElem?_cons_zero, List.getElem?_cons_succ]; rfl)
  case hQ6 => exact fun _ _ _ h => h
  case hy6 => exact y_rpu w.heap.size r _ (fun V hV => hV) rfl
  simp only [Act.put, List.setIfInBounds_toArray, List.set_cons_zero, List.set_cons_succ]
  refine wpAnyH_ready (rs := [6]) (by kernel_rfl) (by simp) ?_
  refine AllReadyH.cons (o := ?oi7) ?hi7 (fun K hK => ?_) AllReadyH.nil
  case hi7 => (simp only [List.getElem?_toArray, List.getElem?_cons_zero, List.getElem?_cons_succ]; rfl)
  rw [if_pos (by rfl)]
  go_simp
  (with_reducible refine (HS.out _).mono ?_)
  rintro e V2 ⟨rfl, hbc⟩
  have hH2 := hide (hHeld.bl hbc)
  replace hM := hM.bl hbc
  replace hW := hW.bl hbc hB
  replace hA := hA.bl hbc
  replace hB := Nat.le_trans hB hbc.size
  replace hS := Nat.le_trans hS hbc.size
  replace hq := hq.bl hbc
  clear hHeld hbc
  go_simp
  refine hK.out _ _ ?_ (fun hHeld => ?_)
  · exact hH2.out
  clear hK K
  clear hH2
  refine wpAnyH_take (i := 7) (oi := ?oi8) (v := .int .u32 (8 * (sl : Int))) ?hi8 (by kernel_rfl) (by kernel_rfl) (by kernel_rfl) ?hQ8 ?hy8 (by assumption) ?rest8
  case hi8 => (simp only [List.getElem?_toArray, List.getElem?_cons_zero, List.getElem?_cons_succ]; rfl)
  case hQ8 => exact fun _ _ _ h => h
  case hy8 => exact Or.inl ⟨by rfl, by (intro w hSw; (try dsimp only at hSw); go_simp ; exact e3.out)⟩
  simp only [Act.put, List.setIfInBounds_toArray, List.set_cons_zero, List.set_cons_succ]
  refine wpAnyH_take (i := 8) (oi := ?oi9) (v := .int .u32 (aH : Nat)) ?hi9 (by kernel_rfl) (by kernel_rfl) (by kernel_rfl) ?hQ9 ?hy9 (by assumption) ?rest9
  case hi9 => (simp only [List.getElem?_toArray, List.getElem?_cons_zero, List.getElem?_cons_succ]; rfl)
  case hQ9 => exact fun _ _ _ h => h
  case hy9 => exact Or.inl ⟨by rfl, by (intro w hSw; (try dsimp only at hSw); go_simp ; exact e5.out)⟩
  simp only [Act.put, List.setIfInBounds_toArray, List.set_cons_zero, List.set_cons_succ]
  refine wpAnyH_take (i := 9) (oi := ?oi10) (v := .int .u32 (aH : Nat)) ?hi10 (by kernel_rfl) (by kernel_rfl) (by kernel_rfl) ?hQ10 ?hy10 (by assumption) ?rest10
  case hi10 => (simp only [List.getElem?_toArray, List.getElem?_cons_zero, List.getElem?_cons_succ]; rfl)
  case hQ10 => exact fun _ _ _ h => h
  case hy10 => exact Or.inl ⟨by rfl, by (intro w hSw; (try dsimp only at hSw); go_simp )⟩
  simp only [Act.put, List.setIfInBounds_toArray, List.set_cons_zero, List.set_cons_succ]
  refine wpAnyH_done (by kernel_rfl) ?_ _
  have hr := hHeld
  clear hHeld
  go_wp2_with (first | (go_at_call 52; (with_reducible refine (HN.out _ _ hM hA).mono ?_); rintro e W ⟨rfl, hbc⟩; replace hM := hM.bl hbc; replace hW := hW.bl hbc hB; replace hA := hA.bl hbc; replace hB := Nat.le_trans hB hbc.size; replace hS := Nat.le_trans hS hbc.size; replace hr := hr.bl hbc; replace hq := hq.bl hbc) | (go_at_call 53; (with_reducible refine (H1.out _ _ hM hA).mono ?_); rintro e W2 ⟨rfl, O2, hM2, hW2⟩; replace hr := hW2.row hr (hF.at 0 (by omega)); replace hq := hW2.row hq (hF.at 1 (by omega)); replace hA := hA.wentR hG hW2; replace hF := hF.went hW2 hS; replace hS := Nat.le_trans hS hW2.size; replace hW := hW.trans hW2; replace hB := Nat.le_trans hB hW2.size; replace hM := hM2; clear hM2 hW2) | (go_at_call 53; (with_reducible refine (H2.out _ _ hM hA).mono ?_); rintro e W2 ⟨rfl, O2, hM2, hW2⟩; replace hr := hW2.row hr (hF.at 0 (by omega)); replace hq := hW2.row hq (hF.at 1 (by omega)); replace hA := hA.wentR hG hW2; replace hF := hF.went hW2 hS; replace hS := Nat.le_trans hS hW2.size; replace hW := hW.trans hW2; replace hB := Nat.le_trans hB hW2.size; replace hM := hM2; clear hM2 hW2) | (go_at_call 53; (with_reducible refine (H3.out _ _ hM hA).mono ?_); rintro e W2 ⟨rfl, O2, hM2, hW2⟩; replace hr := hW2.row hr (hF.at 0 (by omega)); replace hq := hW2.row hq (hF.at 1 (by omega)); replace hA := hA.wentR hG hW2; replace hF := hF.went hW2 hS; replace hS := Nat.le_trans hS hW2.size; replace hW := hW.trans hW2; replace hB := Nat.le_trans hB hW2.size; replace hM := hM2; clear hM2 hW2) | ((with_reducible refine ld_rus w.heap.size _ _ hr ?_ ?_ ?_); exact rfl; exact rfl) | ((with_reducible refine ld_rpu w.heap.size _ _ hr ?_ ?_ ?_); exact rfl; exact rfl) | ((with_reducible refine st_rpu w.heap.size _ pn _ hr ?_ ?_ ?_); exact rfl; (exact congrArg _ e6.out); intro W hnew ho; rw [htr] at hnew; replace hq := hq.only ho (by omega); replace hM := hM.only ho (hF.at 0 (by omega)); replace hA := hA.onlyR ho (by omega); replace hW := hW.only ho (by omega) (by omega); replace hS := (show w.heap.size + 2 ≤ W.heap.size by rw [ho.size]; exact hS); replace hB := (show B ≤ W.heap.size by rw [ho.size]; exact hB); replace hr := hnew; clear hnew ho) | ((with_reducible refine ld_rp w.heap.size (givenR r) hr ?_ ?_ ?_); exact rfl; exact rfl) | ((with_reducible refine st_rp (w.heap.size + 1) _ (givenR r) hq ?_ ?_ ?_); exact rfl; exact rfl; intro W hnew ho; replace hr := hr.only ho (by omega); replace hM := hM.only ho (hF.at 1 (by omega)); replace hA := hA.onlyR ho (by omega); replace hW := hW.only ho (by omega) (by omega); replace hS := (show w.heap.size + 2 ≤ W.heap.size by rw [ho.size]; exact hS); replace hB := (show B ≤ W.heap.size by rw [ho.size]; exact hB); replace hq := hnew; clear hnew ho))
  refine bodyPost_ret (results_cell_u Tryd.results33 _ _ (w.heap.size + 1) _ _ _ rfl hq Tryd.underlying36 rfl size_rp) rfl ?_
  exact ⟨rfl, _, hM, hW⟩
end Go.Proofs.YtbggkoahofnnjaaDoor
