/-
  Pieces of walks over lists, of no package.
-/
import Derived.Test.YtbggkoahofnnjaaDoorJK21
import Derived.Test.YtbggkoahofnnjaaDoorJK22
import Derived.Test.YtbggkoahofnnjaaDoorJK8
import Derived.Test.YtbggkoahofnnjaaDoorJK20
import Derived.Test.YtbggkoahofnnjaaDoorJK19
namespace Go.Proofs.YtbggkoahofnnjaaDoor
open Go.RowKit
set_option linter.unusedVariables false
set_option linter.unusedSimpArgs false

attribute [local go_sem] Rg.at0 Rg.at1 Rg.at2 Rg.at3 Rg.at4 Rg.at5
set_option maxHeartbeats 1000000 in
theorem give_bad (r : Rg) (hr0 : r.Ok) (hc : chkR r = false) (b : Nat) (hd : Int) (n : Nat) (w : World) : Calls Tryd.prog 33 #[.agg r.cells, .pointer (some ⟨b, 0, none⟩), .int .i64 hd, .int .u32 (n : Nat)] w fun e w' => e = .returned (.tuple #[.agg zeroRg.cells, .iface 59 (.int .i64 1)]) ∧ Below w.heap.size w w' := by
  have HC : Hid (∀ W, Calls Tryd.prog 42 #[.agg r.cells, .pointer (some ⟨b, 0, none⟩)] W fun e w' => e = .returned (.iface 59 (.int .i64 1)) ∧ Below W.heap.size W w') := hide (fun W => by have := rcheckw_any r hr0 b W; rw [hc] at this; exact this)
  clear hc hr0
  go_enter Tryd.func33, Tryd.ntmps33
  go_wp2_with (first | ((with_reducible refine bx_rp w.heap.size r ?_ ?_ ?_); exact rfl; exact rfl; intro W hr hb hz) | ((with_reducible refine al_rp (w.heap.size + 1) ?_ ?_); exact hz.out; intro W hq hb' hz'; replace hr := hr.bl (hz.out ▸ hb'); replace hb := hb.trans (hb'.mono (by omega)); replace hz := hz') | ((with_reducible refine ld_rp w.heap.size _ hr ?_ ?_ ?_); exact rfl; exact rfl) | (go_at_call 42; (with_reducible refine (HC.out _).mono ?_); rintro e W ⟨rfl, hbc⟩; replace hr := hr.bl hbc; replace hq := hq.bl hbc; replace hb := below_bl rfl hb hbc) | ((with_reducible refine st_rp (w.heap.size + 1) _ zeroRg hq ?_ ?_ ?_); exact rfl; exact rfl; intro W hnew ho; replace hr := hr.only ho (by omega); replace hq := hnew; replace hb := ho.bel _ _ (by omega) hb))
  refine bodyPost_ret (results_cell_u Tryd.results33 _ _ (w.heap.size + 1) _ _ _ rfl hq Tryd.underlying36 rfl size_rp) rfl ?_
  exact ⟨rfl, hb⟩
set_option maxHeartbeats 1000000 in
theorem give_hd (r : Rg) (hr0 : r.Ok) (hc : chkR r = true) (b : Nat) (hd : Int) (n : Nat) (hh : ¬ (0 ≤ hd ∧ hd < r.sz)) (w : World) : Calls Tryd.prog 33 #[.agg r.cells, .pointer (some ⟨b, 0, none⟩), .int .i64 hd, .int .u32 (n : Nat)] w fun e w' => e = .returned (.tuple #[.agg zeroRg.cells, .iface 59 (.int .i64 22)]) ∧ Below w.heap.size w w' := by
  have HC : Hid (∀ W, Calls Tryd.prog 42 #[.agg r.cells, .pointer (some ⟨b, 0, none⟩)] W fun e w' => e = .returned (.nilIface) ∧ Below W.heap.size W w') := hide (fun W => by have := rcheckw_any r hr0 b W; rw [hc] at this; exact this)
  have HH : Hid (∀ W, Calls Tryd.prog 51 #[.agg r.cells, .int .i64 hd] W fun e w' => e = .returned (.bool false) ∧ Below W.heap.size W w') := hide (fun W => by have := ishead_any r hd W; rwa [decide_eq_false hh] at this)
  clear hc hr0 hh
  go_enter Tryd.func33, Tryd.ntmps33
  go_wp2_with (first | ((with_reducible refine bx_rp w.heap.size r ?_ ?_ ?_); exact rfl; exact rfl; intro W hr hb hz) | ((with_reducible refine al_rp (w.heap.size + 1) ?_ ?_); exact hz.out; intro W hq hb' hz'; replace hr := hr.bl (hz.out ▸ hb'); replace hb := hb.trans (hb'.mono (by omega)); replace hz := hz') | ((with_reducible refine ld_rp w.heap.size _ hr ?_ ?_ ?_); exact rfl; exact rfl) | (go_at_call 42; (with_reducible refine (HC.out _).mono ?_); rintro e W ⟨rfl, hbc⟩; replace hr := hr.bl hbc; replace hq := hq.bl hbc; replace hb := below_bl rfl hb hbc) | (go_at_call 51; (with_reducible refine (HH.out _).mono ?_); rintro e W ⟨rfl, hbc⟩; replace hr := hr.bl hbc; replace hq := hq.bl hbc; replace hb := below_bl rfl hb hbc) | ((with_reducible refine st_rp (w.heap.size + 1) _ zeroRg hq ?_ ?_ ?_); exact rfl; exact rfl; intro W hnew ho; replace hr := hr.only ho (by omega); replace hq := hnew; replace hb := ho.bel _ _ (by omega) hb))
  refine bodyPost_ret (results_cell_u Tryd.results33 _ _ (w.heap.size + 1) _ _ _ rfl hq Tryd.underlying36 rfl size_rp) rfl ?_
  exact ⟨rfl, hb⟩
set_option maxHeartbeats 2000000 in
theorem give_out (r : Rg) (hr0 : r.Ok) (hc : chkR r = true) {w : World} {B b p c : Nat} {f : Nat → Nat} {O : Nat → Prop} (h : RamB w B b p f c O) (hA : AreasAt w) (hG : 0 < B) (hd n : Nat) (hh : (hd : Int) < r.sz) (hn : n < 4294967296) (h1 : plB p (usH r) 8 = false) :
    Calls Tryd.prog 33 #[.agg r.cells, .pointer (some ⟨b, 0, none⟩), .int .i64 (hd : Nat), .int .u32 (n : Nat)] w fun e w' => e = .returned (.tuple #[.agg zeroRg.cells, .iface 59 (.int .i64 22)]) ∧ ∃ O', RamB w' B b p f c O' ∧ Went B O O' w w' := by
  have hB0 := h.base
  have hGw : 0 < w.heap.size := Nat.lt_of_lt_of_le hG hB0
  have hA0 := hA
  clear hA
  obtain ⟨k, hk, hk0, hk1⟩ := chkR_sz hc
  obtain ⟨al1, al2, al3⟩ := chkR_al hc
  have HC : Hid (∀ W, Calls Tryd.prog 42 #[.agg r.cells, .pointer (some ⟨b, 0, none⟩)] W fun e w' => e = .returned .nilIface ∧ Below W.heap.size W w') := hide (fun W => by have := rcheckw_any r hr0 b W; rw [hc] at this; exact this)
  have hpu := hr0.pu
  have hus := hr0.us
  have hfew := h.few
  have hdl : hd < 256 := by omega
  have hsl := slotN_lt hc r.pu
  have b1 : usH r < 4294967296 ∧ usN r < 4294967296 ∧ usC r < 4294967296 := ⟨Nat.mod_lt _ (by decide), Nat.mod_lt _ (by decide), Nat.mod_lt _ (by decide)⟩
  have b2 : usH r % 4 = 0 ∧ usN r % 4 = 0 ∧ usC r % 2 = 0 := by unfold usN usC usH t32; omega
  have HH : Hid (∀ W, Calls Tryd.prog 51 #[.agg r.cells, .int .i64 (hd : Nat)] W fun e w' => e = .returned (.bool true) ∧ Below W.heap.size W w') := hide (fun W => by have := ishead_any r (hd : Int) W; rwa [decide_eq_true (by omega)] at this)
  have HS : Hid (∀ W, Calls Tryd.prog 44 #[.agg r.cells, .int .u16 (r.pu : Nat)] W fun e w' => e = .returned (.int .u32 (slotN r r.pu : Nat)) ∧ Below W.heap.size W w') := hide (fun W => slot_any r hc r.pu hpu W)
  have HN : Hid (∀ W O1, RamB W B b p f c O1 → AreasAt W → Calls Tryd.prog 52 #[.pointer (some ⟨b, 0, none⟩), .int .u32 (usH r : Nat), .int .u64 8] W fun e w' => e = .returned (.bool false) ∧ Below W.heap.size W w') := hide (fun W O1 hM hA => by have := isin_b hM hA (usH r) 8 b1.1 (by decide); rwa [h1] at this)
  have e1 : ((r.us : Int) + 2) % 4294967296 = ((usC r : Nat) : Int) := by unfold usC t32; omega
  have e2 : (((r.us : Int) + 4) % 4294967296 + (8 * ((slotN r r.pu : Nat) : Int))) % 4294967296 = ((usH r : Nat) : Int) := by unfold usH t32; omega
  have en : ((usH r : Int) + 4) % 4294967296 = ((usN r : Nat) : Int) := by unfold usN t32; omega
  have en2 : IntKind.u32.wrap ((usH r : Int) + 4) = ((usN r : Nat) : Int) := by rw [IntKind.wrap_u32]; exact en
  generalize usC r = aC at *
  generalize usN r = aN at *
  generalize usH r = aH at *
  generalize slotN r r.pu = sl at *
  have e3 : Hid (IntKind.u32.wrap (8 * (sl : Int)) = 8 * (sl : Int)) := hide (by rw [IntKind.wrap_u32]; omega)
  have e4 : Hid (IntKind.u32.wrap ((r.us : Int) + 4) = ((r.us : Int) + 4) % 4294967296) := hide (by rw [IntKind.wrap_u32])
  have e5 : Hid (IntKind.u32.wrap (((r.us : Int) + 4) % 4294967296 + (8 * ((sl : Nat) : Int))) = (aH : Int)) := hide (by rw [IntKind.wrap_u32]; exact e2)
  obtain ⟨pn, hpn⟩ : ∃ x, (r.pu + 1) % 65536 = x := ⟨_, rfl⟩
  have e6 : Hid (((r.pu : Int) + 1) % 65536 = (pn : Int)) := hide (by omega)
  have hpl : pn < 65536 := by omega
  have htr : ({ r with pu := pn } : Rg) = givenR r := by unfold givenR; rw [hpn]
  have hgp : (givenR r).pu = pn := hpn
  have hgu : (givenR r).us = r.us := rfl
  clear hk hr0 hc al1 al2 al3 h1 b1 b2 e2 hh hpn
  go_enter Tryd.func33, Tryd.ntmps33
  go_wp2_with (first | ((with_reducible refine bx_rp w.heap.size r ?_ ?_ ?_); exact rfl; exact rfl; intro W hr hb hz) | ((with_reducible refine al_rp (w.heap.size + 1) ?_ ?_); exact hz.out; intro W hq hb' hz'; replace hr := hr.bl (hz.out ▸ hb'); replace hb := hb.trans (hb'.mono (by omega)); replace hz := hz'; have hM := h.bl hb; have hW := Went.of (O := O) hb hB0; have hA := hA0.bl hb; have hF := h.far 2; have hS : w.heap.size + 2 ≤ W.heap.size := Nat.le_of_eq hz.out.symm; have hB : B ≤ W.heap.size := Nat.le_trans hB0 hb.size; clear hb hz hb' hz') | ((with_reducible refine ld_rp w.heap.size _ hr ?_ ?_ ?_); exact rfl; exact rfl) | (go_at_call 42; (with_reducible refine (HC.out _).mono ?_); rintro e W ⟨rfl, hbc⟩; replace hM := hM.bl hbc; replace hW := hW.bl hbc hB; replace hA := hA.bl hbc; replace hB := Nat.le_trans hB hbc.size; replace hS := Nat.le_trans hS hbc.size; replace hr := hr.bl hbc; replace hq := hq.bl hbc) | (go_at_call 51; (with_reducible refine (HH.out _).mono ?_); rintro e W ⟨rfl, hbc⟩; replace hM := hM.bl hbc; replace hW := hW.bl hbc hB; replace hA := hA.bl hbc; replace hB := Nat.le_trans hB hbc.size; replace hS := Nat.le_trans hS hbc.size; replace hr := hr.bl hbc; replace hq := hq.bl hbc))
  refine wp_region_held_drew (S := (fun V => RowAt V w.heap.size r.cells 36)) (by kernel_rfl) ?_ (fun hHeld => ?_)
  · exact hr.dr
  replace hM := hM.dr
  replace hW := hW.dr
  replace hA := hA.drR
  replace hS : w.heap.size + 2 ≤ (World.drew _).heap.size := hS
  replace hB : B ≤ (World.drew _).heap.size := hB
  replace hq := hq.dr
  generalize World.drew _ = V at hHeld hM hW hA hS hB hq ⊢
  clear hr
  refine wpAnyH_take (i := 0) (oi := ?oi1) (v := .pointer (some ⟨w.heap.size, 3, none⟩)) ?hi1 (by kernel_rfl) (by kernel_rfl) (by kernel_rfl) ?hQ1 ?hy1 (by assumption) ?rest1
  case hi1 => (simp only [List.getElem?_toArray, List.getElem?_cons_zero]; rfl)
  case hQ1 => exact fun _ _ _ h => h
  case hy1 => exact Or.inl ⟨by rfl, by (intro w hSw; (try dsimp only at hSw); go_simp )⟩
  simp only [Act.put, List.setIfInBounds_toArray, List.set_cons_zero, List.set_cons_succ]
  refine wpAnyH_take (i := 1) (oi := ?oi2) (v := .int .u32 (r.us : Nat)) ?hi2 (by kernel_rfl) (by kernel_rfl) (by kernel_rfl) ?hQ2 ?hy2 (by assumption) ?rest2
  case hi2 => (simp only [List.getElem?_toArray, List.getElem?_cons_zero, List.getElem?_cons_succ]; rfl)
  case hQ2 => exact fun _ _ _ h => h
  case hy2 => exact y_rus w.heap.size r _ (fun V hV => hV) rfl
  simp only [Act.put, List.setIfInBounds_toArray, List.set_cons_zero, List.set_cons_succ]
  refine wpAnyH_take (i := 2) (oi := ?oi3) (v := .int .u32 (((r.us : Int) + 4) % 4294967296)) ?hi3 (by kernel_rfl) (by kernel_rfl) (by kernel_rfl) ?hQ3 ?hy3 (by assumption) ?rest3
  case hi3 => (simp only [List.getElem?_toArray, List.getElem?_cons_zero, List.getElem?_cons_succ]; rfl)
  case hQ3 => exact fun _ _ _ h => h
  case hy3 => exact Or.inl ⟨by rfl, by (intro w hSw; (try dsimp only at hSw); go_simp ; exact e4.out)⟩
  simp only [Act.put, List.setIfInBounds_toArray, List.set_cons_zero, List.set_cons_succ]
  refine wpAnyH_take (i := 3) (oi := ?oi4) (v := .agg r.cells) ?hi4 (by kernel_rfl) (by kernel_rfl) (by kernel_rfl) ?hQ4 ?hy4 (by assumption) ?rest4
  case hi4 => (simp only [List.getElem?_toArray, List.getElem?_cons_zero, List.getElem?_cons_succ]; rfl)
  case hQ4 => exact fun _ _ _ h => h
  case hy4 => exact y_rp w.heap.size r (fun V hV => hV) rfl rfl
  simp only [Act.put, List.setIfInBounds_toArray, List.set_cons_zero, List.set_cons_succ]
  refine wpAnyH_take (i := 4) (oi := ?oi5) (v := .pointer (some ⟨w.heap.size, 5, none⟩)) ?hi5 (by kernel_rfl) (by kernel_rfl) (by kernel_rfl) ?hQ5 ?hy5 (by assumption) ?rest5
  case hi5 => (simp only [List.getElem?_toArray, List.getElem?_cons_zero, List.getElem?_cons_succ]; rfl)
  case hQ5 => exact fun _ _ _ h => h
  case hy5 => exact Or.inl ⟨by rfl, by (intro w hSw; (try dsimp only at hSw); go_simp )⟩
  simp only [Act.put, List.setIfInBounds_toArray, List.set_cons_zero, List.set_cons_succ]
  refine wpAnyH_take (i := 5) (oi := ?oi6) (v := .int .u16 (r.pu : Nat)) ?hi6 (by kernel_rfl) (by kernel_rfl) (by kernel_rfl) ?hQ6 ?hy6 (by assumption) ?rest6
  case hi6 => (simp only [List.getElem?_toArray, List.getElem?_cons_zero, List.getElem?_cons_succ]; rfl)
  case hQ6 => exact fun _ _ _ h => h
  case hy6 => exact y_rpu w.heap.size r _ (fun V hV => hV) rfl
  simp only [Act.put, List.setIfInBounds_toArray, List.set_cons_zero, List.set_cons_succ]
  refine wpAnyH_ready (rs := [6]) (by kernel_rfl) (by simp) ?_
  refine AllReadyH.cons (o := ?oi7) ?hi7 (fun K hK => ?_) AllReadyH.nil
  case hi7 => (simp only [List.getElem?_toArray, List.getElem?_cons_zero, List.getElem?_cons_succ]; rfl)
  rw [if_pos (by rfl)]
  go_simp
  (with_reducible refine (HS.out _).mono ?_)
  rintro e V2 ⟨rfl, hbc⟩
  have hH2 := hide (hHeld.bl hbc)
  replace hM := hM.bl hbc
  replace hW := hW.bl hbc hB
  replace hA := hA.bl hbc
  replace hB := Nat.le_trans hB hbc.size
  replace hS := Nat.le_trans hS hbc.size
  replace hq := hq.bl hbc
  clear hHeld hbc
  go_simp
  refine hK.out _ _ ?_ (fun hHeld => ?_)
  · exact hH2.out
  clear hK K
  clear hH2
  refine wpAnyH_take (i := 7) (oi := ?oi8) (v := .int .u32 (8 * (sl : Int))) ?hi8 (by kernel_rfl) (by kernel_rfl) (by kernel_rfl) ?hQ8 ?hy8 (by assumption) ?rest8
  case hi8 => (simp only [List.getElem?_toArray, List.getElem?_cons_zero, List.getElem?_cons_succ]; rfl)
  case hQ8 => exact fun _ _ _ h => h
  case hy8 => exact Or.inl ⟨by rfl, by (intro w hSw; (try dsimp only at hSw); go_simp ; exact e3.out)⟩
  simp only [Act.put, List.setIfInBounds_toArray, List.set_cons_zero, List.set_cons_succ]
  refine wpAnyH_take (i := 8) (oi := ?oi9) (v := .int .u32 (aH : Nat)) ?hi9 (by kernel_rfl) (by kernel_rfl) (by kernel_rfl) ?hQ9 ?hy9 (by assumption) ?rest9
  case hi9 => (simp only [List.getElem?_toArray, List.getElem?_cons_zero, List.getElem?_cons_succ]; rfl)
  case hQ9 => exact fun _ _ _ h => h
  case hy9 => exact Or.inl ⟨by rfl, by (intro w hSw; (try dsimp only at hSw); go_simp ; exact e5.out)⟩
  simp only [Act.put, List.setIfInBounds_toArray, List.set_cons_zero, List.set_cons_succ]
  refine wpAnyH_take (i := 9) (oi := ?oi10) (v := .int .u32 (aH : Nat)) ?hi10 (by kernel_rfl) (by kernel_rfl) (by kernel_rfl) ?hQ10 ?hy10 (by assumption) ?rest10
  case hi10 => (simp only [List.getElem?_toArray, List.getElem?_cons_zero, List.getElem?_cons_succ]; rfl)
  case hQ10 => exact fun _ _ _ h => h
  case hy10 => exact Or.inl ⟨by rfl, by (intro w hSw; (try dsimp only at hSw); go_simp )⟩
  simp only [Act.put, List.setIfInBounds_toArray, List.set_cons_zero, List.set_cons_succ]
  refine wpAnyH_done (by kernel_rfl) ?_ _
  have hr := hHeld
  clear hHeld
  go_wp2_with (first | (go_at_call 52; (with_reducible refine (HN.out _ _ hM hA).mono ?_); rintro e W ⟨rfl, hbc⟩; replace hM := hM.bl hbc; replace hW := hW.bl hbc hB; replace hA := hA.bl hbc; replace hB := Nat.le_trans hB hbc.size; replace hS := Nat.le_trans hS hbc.size; replace hr := hr.bl hbc; replace hq := hq.bl hbc) | ((with_reducible refine st_rp (w.heap.size + 1) _ zeroRg hq ?_ ?_ ?_); exact rfl; exact rfl; intro W hnew ho; replace hr := hr.only ho (by omega); replace hM := hM.only ho (hF.at 1 (by omega)); replace hA := hA.onlyR ho (by omega); replace hW := hW.only ho (by omega) (by omega); replace hS := (show w.heap.size + 2 ≤ W.heap.size by rw [ho.size]; exact hS); replace hB := (show B ≤ W.heap.size by rw [ho.size]; exact hB); replace hq := hnew; clear hnew ho))
  refine bodyPost_ret (results_cell_u Tryd.results33 _ _ (w.heap.size + 1) _ _ _ rfl hq Tryd.underlying36 rfl size_rp) rfl ?_
  exact ⟨rfl, _, hM, hW⟩
def halfF (r : Rg) (f : Nat → Nat) (h n : Nat) : Nat → Nat := wroteF (wroteF f (plM (usH r)) (numB h 4)) (plM (usN r)) (numB n 4)
set_option maxHeartbeats 2000000 in
theorem give_half (r : Rg) (hr0 : r.Ok) (hc : chkR r = true) {w : World} {B b p c : Nat} {f : Nat → Nat} {O : Nat → Prop} (h : RamB w B b p f c O) (hA : AreasAt w) (hG : 0 < B) (hd n : Nat) (hh : (hd : Int) < r.sz) (hn : n < 4294967296) (h1 : plB p (usH r) 8 = true) (h3 : plB p (usC r) 2 = false) (hcc : c ≤ 900000000) :
    Calls Tryd.prog 33 #[.agg r.cells, .pointer (some ⟨b, 0, none⟩), .int .i64 (hd : Nat), .int .u32 (n : Nat)] w fun e w' => e = .returned (.tuple #[.agg zeroRg.cells, .iface 59 (.int .i64 22)]) ∧ ∃ O', RamB w' B b p (halfF r f hd n) (c + 1 + 1) O' ∧ Went B O O' w w' := by
  unfold halfF
  have hB0 := h.base
  have hGw : 0 < w.heap.size := Nat.lt_of_lt_of_le hG hB0
  have hA0 := hA
  clear hA
  obtain ⟨k, hk, hk0, hk1⟩ := chkR_sz hc
  obtain ⟨al1, al2, al3⟩ := chkR_al hc
  have HC : Hid (∀ W, Calls Tryd.prog 42 #[.agg r.cells, .pointer (some ⟨b, 0, none⟩)] W fun e w' => e = .returned .nilIface ∧ Below W.heap.size W w') := hide (fun W => by have := rcheckw_any r hr0 b W; rw [hc] at this; exact this)
  have hpu := hr0.pu
  have hus := hr0.us
  have hfew := h.few
  obtain ⟨q1, q2, q3⟩ := usN_in hfew h1
  have hdl : hd < 256 := by omega
  have hsl := slotN_lt hc r.pu
  have b1 : usH r < 4294967296 ∧ usN r < 4294967296 ∧ usC r < 4294967296 := ⟨Nat.mod_lt _ (by decide), Nat.mod_lt _ (by decide), Nat.mod_lt _ (by decide)⟩
  have b2 : usH r % 4 = 0 ∧ usN r % 4 = 0 ∧ usC r % 2 = 0 := by unfold usN usC usH t32; omega
  have HH : Hid (∀ W, Calls Tryd.prog 51 #[.agg r.cells, .int .i64 (hd : Nat)] W fun e w' => e = .returned (.bool true) ∧ Below W.heap.size W w') := hide (fun W => by have := ishead_any r (hd : Int) W; rwa [decide_eq_true (by omega)] at this)
  have HS : Hid (∀ W, Calls Tryd.prog 44 #[.agg r.cells, .int .u16 (r.pu : Nat)] W fun e w' => e = .returned (.int .u32 (slotN r r.pu : Nat)) ∧ Below W.heap.size W w') := hide (fun W => slot_any r hc r.pu hpu W)
  have HN : Hid (∀ W O1, RamB W B b p f c O1 → AreasAt W → Calls Tryd.prog 52 #[.pointer (some ⟨b, 0, none⟩), .int .u32 (usH r : Nat), .int .u64 8] W fun e w' => e = .returned (.bool true) ∧ Below W.heap.size W w') := hide (fun W O1 hM hA => by have := isin_b hM hA (usH r) 8 b1.1 (by decide); rwa [h1] at this)
  have H1 : Hid (∀ W O1, RamB W B b p (f) (c) O1 → AreasAt W → Calls Tryd.prog 53 #[.pointer (some ⟨b, 0, none⟩), .int .u32 (usH r : Nat), .int .i64 4, .int .u32 (hd : Nat)] W fun e w' => e = .returned .nilIface ∧ ∃ O', RamB w' B b p (wroteF f (plM (usH r)) (numB hd 4)) (c + 1) O' ∧ Went B O1 O' W w') := hide (fun W O1 hM hA => rstore_yes hM hA hG (usH r) 4 b1.1 (by decide) b2.1 q3 hd (by omega) (by omega))
  have H2 : Hid (∀ W O1, RamB W B b p (wroteF f (plM (usH r)) (numB hd 4)) (c + 1) O1 → AreasAt W → Calls Tryd.prog 53 #[.pointer (some ⟨b, 0, none⟩), .int .u32 (usN r : Nat), .int .i64 4, .int .u32 (n : Nat)] W fun e w' => e = .returned .nilIface ∧ ∃ O', RamB w' B b p (wroteF (wroteF f (plM (usH r)) (numB hd 4)) (plM (usN r)) (numB n 4)) (c + 1 + 1) O' ∧ Went B O1 O' W w') := hide (fun W O1 hM hA => rstore_yes hM hA hG (usN r) 4 b1.2.1 (by decide) b2.2.1 q2 n hn (by omega))
  have H3 : Hid (∀ W O1, RamB W B b p (wroteF (wroteF f (plM (usH r)) (numB hd 4)) (plM (usN r)) (numB n 4)) (c + 1 + 1) O1 → AreasAt W → Calls Tryd.prog 53 #[.pointer (some ⟨b, 0, none⟩), .int .u32 (usC r : Nat), .int .i64 2, .int .u32 ((r.pu + 1) % 65536 : Nat)] W fun e w' => e = .returned (.iface 59 (.int .i64 22)) ∧ ∃ O', RamB w' B b p (wroteF (wroteF f (plM (usH r)) (numB hd 4)) (plM (usN r)) (numB n 4)) (c + 1 + 1) O' ∧ Went B O1 O' W w') := hide (fun W O1 hM hA => rstore_no hM hA hG (usC r) 2 b1.2.2 (by decide) b2.2.2 h3 _ (by omega))
  have e1 : ((r.us : Int) + 2) % 4294967296 = ((usC r : Nat) : Int) := by unfold usC t32; omega
  have e2 : (((r.us : Int) + 4) % 4294967296 + (8 * ((slotN r r.pu : Nat) : Int))) % 4294967296 = ((usH r : Nat) : Int) := by unfold usH t32; omega
  have en : ((usH r : Int) + 4) % 4294967296 = ((usN r : Nat) : Int) := by unfold usN t32; omega
  have en2 : IntKind.u32.wrap ((usH r : Int) + 4) = ((usN r : Nat) : Int) := by rw [IntKind.wrap_u32]; exact en
  generalize wroteF (wroteF f (plM (usH r)) (numB hd 4)) (plM (usN r)) (numB n 4) = f2 at *
  generalize wroteF f (plM (usH r)) (numB hd 4) = f1 at *
  generalize usC r = aC at *
  generalize usN r = aN at *
  generalize usH r = aH at *
  generalize slotN r r.pu = sl at *
  have e3 : Hid (IntKind.u32.wrap (8 * (sl : Int)) = 8 * (sl : Int)) := hide (by rw [IntKind.wrap_u32]; omega)
  have e4 : Hid (IntKind.u32.wrap ((r.us : Int) + 4) = ((r.us : Int) + 4) % 4294967296) := hide (by rw [IntKind.wrap_u32])
  have e5 : Hid (IntKind.u32.wrap (((r.us : Int) + 4) % 4294967296 + (8 * ((sl : Nat) : Int))) = (aH : Int)) := hide (by rw [IntKind.wrap_u32]; exact e2)
  obtain ⟨pn, hpn⟩ : ∃ x, (r.pu + 1) % 65536 = x := ⟨_, rfl⟩
  have e6 : Hid (((r.pu : Int) + 1) % 65536 = (pn : Int)) := hide (by omega)
  have hpl : pn < 65536 := by omega
  have htr : ({ r with pu := pn } : Rg) = givenR r := by unfold givenR; rw [hpn]
  rw [hpn] at H3
  have hgp : (givenR r).pu = pn := hpn
  have hgu : (givenR r).us = r.us := rfl
  clear hk hr0 hc al1 al2 al3 h1 h3 q1 q2 q3 b1 b2 e2 hh hcc hpn
  go_enter Tryd.func33, Tryd.ntmps33
  go_wp2_with (first | ((with_reducible refine bx_rp w.heap.size r ?_ ?_ ?_); exact rfl; exact rfl; intro W hr hb hz) | ((with_reducible refine al_rp (w.heap.size + 1) ?_ ?_); exact hz.out; intro W hq hb' hz'; replace hr := hr.bl (hz.out ▸ hb'); replace hb := hb.trans (hb'.mono (by omega)); replace hz := hz'; have hM := h.bl hb; have hW := Went.of (O := O) hb hB0; have hA := hA0.bl hb; have hF := h.far 2; have hS : w.heap.size + 2 ≤ W.heap.size := Nat.le_of_eq hz.out.symm; have hB : B ≤ W.heap.size := Nat.le_trans hB0 hb.size; clear hb hz hb' hz') | ((with_reducible refine ld_rp w.heap.size _ hr ?_ ?_ ?_); exact rfl; exact rfl) | (go_at_call 42; (with_reducible refine (HC.out _).mono ?_); rintro e W ⟨rfl, hbc⟩; replace hM := hM.bl hbc; replace hW := hW.bl hbc hB; replace hA := hA.bl hbc; replace hB := Nat.le_trans hB hbc.size; replace hS := Nat.le_trans hS hbc.size; replace hr := hr.bl hbc; replace hq := hq.bl hbc) | (go_at_call 51; (with_reducible refine (HH.out _).mono ?_); rintro e W ⟨rfl, hbc⟩; replace hM := hM.bl hbc; replace hW := hW.bl hbc hB; replace hA := hA.bl hbc; replace hB := Nat.le_trans hB hbc.size; replace hS := Nat.le_trans hS hbc.size; replace hr := hr.bl hbc; replace hq := hq.bl hbc))
  refine wp_region_held_drew (S := (fun V => RowAt V w.heap.size r.cells 36)) (by kernel_rfl) ?_ (fun hHeld => ?_)
  · exact hr.dr
  replace hM := hM.dr
  replace hW := hW.dr
  replace hA := hA.drR
  replace hS : w.heap.size + 2 ≤ (World.drew _).heap.size := hS
  replace hB : B ≤ (World.drew _).heap.size := hB
  replace hq := hq.dr
  generalize World.drew _ = V at hHeld hM hW hA hS hB hq ⊢
  clear hr
  refine wpAnyH_take (i := 0) (oi := ?oi1) (v := .pointer (some ⟨w.heap.size, 3, none⟩)) ?hi1 (by kernel_rfl) (by kernel_rfl) (by kernel_rfl) ?hQ1 ?hy1 (by assumption) ?rest1
  case hi1 => (simp only [List.getElem?_toArray, List.getElem?_cons_zero]; rfl)
  case hQ1 => exact fun _ _ _ h => h
  case hy1 => exact Or.inl ⟨by rfl, by (intro w hSw; (try dsimp only at hSw); go_simp )⟩
  simp only [Act.put, List.setIfInBounds_toArray, List.set_cons_zero, List.set_cons_succ]
  refine wpAnyH_take (i := 1) (oi := ?oi2) (v := .int .u32 (r.us : Nat)) ?hi2 (by kernel_rfl) (by kernel_rfl) (by kernel_rfl) ?hQ2 ?hy2 (by assumption) ?rest2
  case hi2 => (simp only [List.getElem?_toArray, List.getElem?_cons_zero, List.getElem?_cons_succ]; rfl)
  case hQ2 => exact fun _ _ _ h => h
  case hy2 => exact y_rus w.heap.size r _ (fun V hV => hV) rfl
  simp only [Act.put, List.setIfInBounds_toArray, List.set_cons_zero, List.set_cons_succ]
  refine wpAnyH_take (i := 2) (oi := ?oi3) (v := .int .u32 (((r.us : Int) + 4) % 4294967296)) ?hi3 (by kernel_rfl) (by kernel_rfl) (by kernel_rfl) ?hQ3 ?hy3 (by assumption) ?rest3
  case hi3 => (simp only [List.getElem?_toArray, List.getElem?_cons_zero, List.getElem?_cons_succ]; rfl)
  case hQ3 => exact fun _ _ _ h => h
  case hy3 => exact Or.inl ⟨by rfl, by (intro w hSw; (try dsimp only at hSw); go_simp ; exact e4.out)⟩
  simp only [Act.put, List.setIfInBounds_toArray, List.set_cons_zero, List.set_cons_succ]
  refine wpAnyH_take (i := 3) (oi := ?oi4) (v := .agg r.cells) ?hi4 (by kernel_rfl) (by kernel_rfl) (by kernel_rfl) ?hQ4 ?hy4 (by assumption) ?rest4
  case hi4 => (simp only [List.getElem?_toArray, List.getElem?_cons_zero, List.getElem?_cons_succ]; rfl)
  case hQ4 => exact fun _ _ _ h => h
  case hy4 => exact y_rp w.heap.size r (fun V hV => hV) rfl rfl
  simp only [Act.put, List.setIfInBounds_toArray, List.set_cons_zero, List.set_cons_succ]
  refine wpAnyH_take (i := 4) (oi := ?oi5) (v := .pointer (some ⟨w.heap.size, 5, none⟩)) ?hi5 (by kernel_rfl) (by kernel_rfl) (by kernel_rfl) ?hQ5 ?hy5 (by assumption) ?rest5
  case hi5 => (simp only [List.getElem?_toArray, List.getElem?_cons_zero, List.getElem?_cons_succ]; rfl)
  case hQ5 => exact fun _ _ _ h => h
  case hy5 => exact Or.inl ⟨by rfl, by (intro w hSw; (try dsimp only at hSw); go_simp )⟩
  simp only [Act.put, List.setIfInBounds_toArray, List.set_cons_zero, List.set_cons_succ]
  refine wpAnyH_take (i := 5) (oi := ?oi6) (v := .int .u16 (r.pu : Nat)) ?hi6 (by kernel_rfl) (by kernel_rfl) (by kernel_rfl) ?hQ6 ?hy6 (by assumption) ?rest6
  case hi6 => (simp only [List.getElem?_toArray, List.getElem?_cons_zero, List.getElem?_cons_succ]; rfl)
  case hQ6 => exact fun _ _ _ h => h
  case hy6 => exact y_rpu w.heap.size r _ (fun V hV => hV) rfl
  simp only [Act.put, List.setIfInBounds_toArray, List.set_cons_zero, List.set_cons_succ]
  refine wpAnyH_ready (rs := [6]) (by kernel_rfl) (by simp) ?_
  refine AllReadyH.cons (o := ?oi7) ?hi7 (fun K hK => ?_) AllReadyH.nil
  case hi7 => (simp only [List.getElem?_toArray, List.getElem?_cons_zero, List.getElem?_cons_succ]; rfl)
  rw [if_pos (by rfl)]
  go_simp
  (with_reducible refine (HS.out _).mono ?_)
  rintro e V2 ⟨rfl, hbc⟩
  have hH2 := hide (hHeld.bl hbc)
  replace hM := hM.bl hbc
  replace hW := hW.bl hbc hB
  replace hA := hA.bl hbc
  replace hB := Nat.le_trans hB hbc.size
  replace hS := Nat.le_trans hS hbc.size
  replace hq := hq.bl hbc
  clear hHeld hbc
  go_simp
  refine hK.out _ _ ?_ (fun hHeld => ?_)
  · exact hH2.out
  clear hK K
  clear hH2
  refine wpAnyH_take (i := 7) (oi := ?oi8) (v := .int .u32 (8 * (sl : Int))) ?hi8 (by kernel_rfl) (by kernel_rfl) (by kernel_rfl) ?hQ8 ?hy8 (by assumption) ?rest8
  case hi8 => (simp only [List.getElem?_toArray, List.getElem?_cons_zero, List.getElem?_cons_succ]; rfl)
  case hQ8 => exact fun _ _ _ h => h
  case hy8 => exact Or.inl ⟨by rfl, by (intro w hSw; (try dsimp only at hSw); go_simp ; exact e3.out)⟩
  simp only [Act.put, List.setIfInBounds_toArray, List.set_cons_zero, List.set_cons_succ]
  refine wpAnyH_take (i := 8) (oi := ?oi9) (v := .int .u32 (aH : Nat)) ?hi9 (by kernel_rfl) (by kernel_rfl) (by kernel_rfl) ?hQ9 ?hy9 (by assumption) ?rest9
  case hi9 => (simp only [List.getElem?_toArray, List.getElem?_cons_zero, List.getElem?_cons_succ]; rfl)
  case hQ9 => exact fun _ _ _ h => h
  case hy9 => exact Or.inl ⟨by rfl, by (intro w hSw; (try dsimp only at hSw); go_simp ; exact e5.out)⟩
  simp only [Act.put, List.setIfInBounds_toArray, List.set_cons_zero, List.set_cons_succ]
  refine wpAnyH_take (i := 9) (oi := ?oi10) (v := .int .u32 (aH : Nat)) ?hi10 (by kernel_rfl) (by kernel_rfl) (by kernel_rfl) ?hQ10 ?hy10 (by assumption) ?rest10
  case hi10 => (simp only [List.getElem?_toArray, List.getElem?_cons_zero, List.getElem?_cons_succ]; rfl)
  case hQ10 => exact fun _ _ _ h => h
  case hy10 => exact Or.inl ⟨by rfl, by (intro w hSw; (try dsimp only at hSw); go_simp )⟩
  simp only [Act.put, List.setIfInBounds_toArray, List.set_cons_zero, List.set_cons_succ]
  refine wpAnyH_done (by kernel_rfl) ?_ _
  have hr := hHeld
  clear hHeld
  go_wp2_with (first | (go_at_call 52; (with_reducible refine (HN.out _ _ hM hA).mono ?_); rintro e W ⟨rfl, hbc⟩; replace hM := hM.bl hbc; replace hW := hW.bl hbc hB; replace hA := hA.bl hbc; replace hB := Nat.le_trans hB hbc.size; replace hS := Nat.le_trans hS hbc.size; replace hr := hr.bl hbc; replace hq := hq.bl hbc) | (go_at_call 53; (with_reducible refine (H1.out _ _ hM hA).mono ?_); rintro e W2 ⟨rfl, O2, hM2, hW2⟩; replace hr := hW2.row hr (hF.at 0 (by omega)); replace hq := hW2.row hq (hF.at 1 (by omega)); replace hA := hA.wentR hG hW2; replace hF := hF.went hW2 hS; replace hS := Nat.le_trans hS hW2.size; replace hW := hW.trans hW2; replace hB := Nat.le_trans hB hW2.size; replace hM := hM2; clear hM2 hW2) | (go_at_call 53; (with_reducible refine (H2.out _ _ hM hA).mono ?_); rintro e W2 ⟨rfl, O2, hM2, hW2⟩; replace hr := hW2.row hr (hF.at 0 (by omega)); replace hq := hW2.row hq (hF.at 1 (by omega)); replace hA := hA.wentR hG hW2; replace hF := hF.went hW2 hS; replace hS := Nat.le_trans hS hW2.size; replace hW := hW.trans hW2; replace hB := Nat.le_trans hB hW2.size; replace hM := hM2; clear hM2 hW2) | (go_at_call 53; (with_reducible refine (H3.out _ _ hM hA).mono ?_); rintro e W2 ⟨rfl, O2, hM2, hW2⟩; replace hr := hW2.row hr (hF.at 0 (by omega)); replace hq := hW2.row hq (hF.at 1 (by omega)); replace hA := hA.wentR hG hW2; replace hF := hF.went hW2 hS; replace hS := Nat.le_trans hS hW2.size; replace hW := hW.trans hW2; replace hB := Nat.le_trans hB hW2.size; replace hM := hM2; clear hM2 hW2) | ((with_reducible refine ld_rus w.heap.size _ _ hr ?_ ?_ ?_); exact rfl; exact rfl) | ((with_reducible refine ld_rpu w.heap.size _ _ hr ?_ ?_ ?_); exact rfl; exact rfl) | ((with_reducible refine st_rpu w.heap.size _ pn _ hr ?_ ?_ ?_); exact rfl; (exact congrArg _ e6.out); intro W hnew ho; rw [htr] at hnew; replace hq := hq.only ho (by omega); replace hM := hM.only ho (hF.at 0 (by omega)); replace hA := hA.onlyR ho (by omega); replace hW := hW.only ho (by omega) (by omega); replace hS := (show w.heap.size + 2 ≤ W.heap.size by rw [ho.size]; exact hS); replace hB := (show B ≤ W.heap.size by rw [ho.size]; exact hB); replace hr := hnew; clear hnew ho) | ((with_reducible refine st_rp (w.heap.size + 1) _ zeroRg hq ?_ ?_ ?_); exact rfl; exact rfl; intro W hnew ho; replace hr := hr.only ho (by omega); replace hM := hM.only ho (hF.at 1 (by omega)); replace hA := hA.onlyR ho (by omega); replace hW := hW.only ho (by omega) (by omega); replace hS := (show w.heap.size + 2 ≤ W.heap.size by rw [ho.size]; exact hS); replace hB := (show B ≤ W.heap.size by rw [ho.size]; exact hB); replace hq := hnew; clear hnew ho))
  refine bodyPost_ret (results_cell_u Tryd.results33 _ _ (w.heap.size + 1) _ _ _ rfl hq Tryd.underlying36 rfl size_rp) rfl ?_
  exact ⟨rfl, _, hM, hW⟩
/-- What Give makes: the bytes, and the ring, if all of it could be stored. -/
def giveV (p : Nat) (f : Nat → Nat) (r : Rg) (hd : Int) (n : Nat) : (Nat → Nat) × Option Rg :=
  if chkR r = true then
    (if 0 ≤ hd ∧ hd < r.sz then
      (if plB p (usH r) 8 = true then
        (if plB p (usC r) 2 = true then (giveF r f hd.toNat n, some (givenR r)) else (halfF r f hd.toNat n, none))
       else (f, none))
     else (f, none))
  else (f, none)
/-- What Give answers. -/
structure GaveE (o : Option Rg) (e : Ending) : Prop where
  ex : (∃ r, o = some r ∧ e = .returned (.tuple #[.agg r.cells, .nilIface])) ∨ (o = none ∧ ∃ k : Int, e = .returned (.tuple #[.agg zeroRg.cells, .iface 59 (.int .i64 k)]))
theorem give_any (r : Rg) (hr0 : r.Ok) {w : World} {B b p c : Nat} {f : Nat → Nat} {O : Nat → Prop} (h : RamB w B b p f c O) (hA : AreasAt w) (hG : 0 < B) (hd : Int) (n : Nat) (hn : n < 4294967296) (hcc : c ≤ 900000000) :
    Calls Tryd.prog 33 #[.agg r.cells, .pointer (some ⟨b, 0, none⟩), .int .i64 hd, .int .u32 (n : Nat)] w fun e w' => GaveE (giveV p f r hd n).2 e ∧ ∃ O', RamB w' B b p (giveV p f r hd n).1 (c + 1 + 1 + 1) O' ∧ Went B O O' w w' := by
  unfold giveV
  by_cases hc : chkR r = true
  · rw [if_pos hc]
    by_cases hh : 0 ≤ hd ∧ hd < r.sz
    · rw [if_pos hh]
      obtain ⟨d, rfl⟩ := Int.eq_ofNat_of_zero_le hh.1
      rw [Int.toNat_natCast]
      by_cases h1 : plB p (usH r) 8 = true
      · rw [if_pos h1]
        by_cases h3 : plB p (usC r) 2 = true
        · rw [if_pos h3]
          refine (give_ok r hr0 hc h hA hG d n hh.2 hn h1 h3 hcc).mono ?_
          rintro e w' ⟨rfl, hM⟩
          exact ⟨⟨.inl ⟨_, rfl, rfl⟩⟩, hM⟩
        · rw [if_neg h3]
          refine (give_half r hr0 hc h hA hG d n hh.2 hn h1 (by simpa using h3) hcc).mono ?_
          rintro e w' ⟨rfl, O', hM, hW⟩
          exact ⟨⟨.inr ⟨rfl, _, rfl⟩⟩, O', hM.more (by omega), hW⟩
      · rw [if_neg h1]
        refine (give_out r hr0 hc h hA hG d n hh.2 hn (by simpa using h1)).mono ?_
        rintro e w' ⟨rfl, O', hM, hW⟩
        exact ⟨⟨.inr ⟨rfl, _, rfl⟩⟩, O', hM.more (by omega), hW⟩
    · rw [if_neg hh]
      refine (give_hd r hr0 hc b hd n hh w).mono ?_
      rintro e w' ⟨rfl, hb⟩
      exact ⟨⟨.inr ⟨rfl, _, rfl⟩⟩, O, (h.bl hb).more (by omega), Went.of hb h.base⟩
  · rw [if_neg hc]
    refine (give_bad r hr0 (by simpa using hc) b hd n w).mono ?_
    rintro e w' ⟨rfl, hb⟩
    exact ⟨⟨.inr ⟨rfl, _, rfl⟩⟩, O, (h.bl hb).more (by omega), Went.of hb h.base⟩
end Go.Proofs.YtbggkoahofnnjaaDoor
namespace Go.Proofs.YtbggkoahofnnjaaDoor
open Go.RowKit
set_option linter.unusedVariables false
set_option linter.unusedSimpArgs false

def nilS : Value := .slice none 0 0
theorem own_one {w : World} {B e sz n : Nat} {v : Value} {xs : List Value} (h : w.ownsRow B e sz v n xs) : v.oneCell' = true := by
  obtain ⟨a, c, rfl, _⟩ := own_form h
  rfl
theorem own_ty {w : World} {B e sz n g : Nat} {v : Value} {xs : List Value} {cs : Array Value} {t : TypeId} (h : w.ownsRow B e sz v n xs) (hg : v.ownBlock = some g) (hr : RowAt w g cs t) : t = e := by
  rcases h.2 with ⟨h1, _⟩ | ⟨g', cap, cur, h1, _, h3, _⟩
  · subst h1; cases hg
  · subst h1
    cases hg
    have := hr.symm.trans h3
    simp at this
    exact this.2
theorem BytesO.bl {w W : World} {O : Nat → Prop} {la : Option Addr} {l : List Nat} (h : BytesO w O la l) (hb : Below w.heap.size w W) : BytesO W O la l :=
  ⟨fun h0 => by
    obtain ⟨b, o, e, h1, h2, h3⟩ := h.lies h0
    exact ⟨b, o, e, Nat.lt_of_lt_of_le h1 hb.size, h2, fun j hj => (hb.cell (p := ⟨b, o + j, none⟩) h1).trans (h3 j hj)⟩, h.small⟩
theorem gave_none {e : Ending} (h : GaveE none e) : ∃ z : Int, e = .returned (.tuple #[.agg zeroRg.cells, .iface 59 (.int .i64 z)]) := by
  rcases h.ex with ⟨r, q, _⟩ | ⟨_, z, e⟩
  · cases q
  · exact ⟨z, e⟩
theorem gave_some {r : Rg} {e : Ending} (h : GaveE (some r) e) : e = .returned (.tuple #[.agg r.cells, .nilIface]) := by
  rcases h.ex with ⟨r', q, e⟩ | ⟨q, _⟩
  · cases q; exact e
  · cases q
theorem givenR_ok {p : Nat} {f : Nat → Nat} {r r' : Rg} {hd : Int} {n : Nat} (h : r.Ok) (e : (giveV p f r hd n).2 = some r') : r'.Ok := by
  unfold giveV at e
  repeat' split at e
  all_goals first
    | (cases e; exact ⟨h.sz0, h.sz1, h.de, h.av, h.us, h.la, Nat.mod_lt _ (by decide)⟩)
    | cases e
theorem inS_less {p : Nat} {s : Sg} {n : Int} (h : inS p s = true) (h0 : 0 ≤ n) (hn : n ≤ s.n) : inS p { s with n := n } = true := by
  unfold inS plB at *
  have := of_decide_eq_true h
  exact decide_eq_true (by simp only; omega)
theorem parts_inS {p : Nat} (wr : Bool) : ∀ (l : List Sg) (n : Int), (∀ s ∈ l, inS p s = true) → (partsV wr n l).all (inS p) = true
  | [], n, h => rfl
  | s :: t, n, h => by
    have ht := fun n => parts_inS wr t n (fun x hx => h x (List.mem_cons_of_mem _ hx))
    simp only [partsV]
    split
    · rename_i hx
      rw [List.all_cons, ht, Bool.and_true]
      exact inS_less (h s (List.mem_cons_self ..)) (by split <;> omega) (by split <;> omega)
    · exact ht n
theorem odd_parts (p : Nat) : ∀ (l : List (Nat → Nat)) (tot : Nat) (wr : Bool), oddL p tot wr l = false → (∀ g ∈ l, inS p (sgOf g) = true) ∧ (0 < l.length → tot + (l.map fun g => g 2).sum ≤ 1048576)
  | [], tot, wr, h => ⟨fun g hg => (by cases hg), fun h => absurd h (by decide)⟩
  | g :: t, tot, wr, h => by
    simp only [oddL, oddD, Bool.or_eq_false_iff, decide_eq_false_iff_not, Bool.not_eq_false'] at h
    obtain ⟨⟨_, h2, _, _, h5⟩, h6⟩ := h
    obtain ⟨i1, i2⟩ := odd_parts p t _ _ h6
    refine ⟨fun x hx => ?_, fun _ => ?_⟩
    · rcases List.mem_cons.1 hx with rfl | hx
      · exact h5
      · exact i1 x hx
    · simp only [List.map_cons, List.sum_cons]
      cases t with
      | nil => simp; omega
      | cons y t => have := i2 (by simp); omega
/-- What is so of the parts of a chain. -/
structure PartsOk (p : Nat) (ps : List Sg) : Prop where
  ok : ∀ s ∈ ps, s.Ok ∧ 0 ≤ s.n
  ins : ∀ s ∈ ps, inS p s = true
  len : ps.length ≤ 256
  pos : 0 < ps.length
  tot : (ps.map fun s => s.n.toNat).sum ≤ 1048576
theorem walk_parts {p : Nat} {f : Nat → Nat} {r : Rg} {hd : Int} {ps : List Sg} (hf : ∀ x, f x < 256) (hc : chkR r = true) (h : walkV p f r hd = some ps) : PartsOk p ps := by
  unfold walkV at h
  cases hfo : followV p f r r.sz.toNat hd with
  | none => rw [hfo] at h; cases h
  | some l =>
    rw [hfo] at h
    simp only at h
    cases ho : oddL p 0 false l with
    | true => rw [ho] at h; simp at h
    | false =>
      rw [ho] at h
      simp at h
      subst h
      obtain ⟨k, hk, hk0, hk1⟩ := chkR_sz hc
      obtain ⟨h1, h2⟩ := follow_len _ _ _ hfo
      rw [hk, Int.toNat_natCast] at h1
      have hw := follow_words hf _ _ _ hfo
      obtain ⟨i1, i2⟩ := odd_parts p l 0 false ho
      refine ⟨fun s hs => ?_, fun s hs => ?_, by rw [List.length_map]; omega, by rw [List.length_map]; exact h2, ?_⟩
      · obtain ⟨g, hg, rfl⟩ := List.mem_map.1 hs
        have a0 := hw g hg 0
        have a2 := hw g hg 2
        exact ⟨⟨a0, by show (_ : Int) ≤ ((g 2 : Nat) : Int); omega, by show ((g 2 : Nat) : Int) ≤ _; omega⟩, by show (0 : Int) ≤ ((g 2 : Nat) : Int); omega⟩
      · obtain ⟨g, hg, rfl⟩ := List.mem_map.1 hs
        exact i1 g hg
      · rw [List.map_map]
        have e : ((fun s => s.n.toNat) ∘ sgOf) = fun g : Nat → Nat => g 2 := by funext g; show ((g 2 : Nat) : Int).toNat = _; simp
        rw [e]
        have := i2 h2
        omega
theorem walk_all (r : Rg) (hr0 : r.Ok) (hc : chkR r = true) (hd : Int) {w : World} {B b p c : Nat} {f : Nat → Nat} {O : Nat → Prop} (h : RamB w B b p f c O) (hA : AreasAt w) (hG : 0 < B) : Calls Tryd.prog 29 #[.agg r.cells, .pointer (some ⟨b, 0, none⟩), .int .i64 hd] w fun e w' => ∃ O', RamB w' B b p f c O' ∧ Went B O O' w w' ∧ ((walkV p f r hd = none ∧ e = .returned (.tuple #[.slice none 0 0, .iface 59 (.int .i64 22)])) ∨ ∃ ps v, walkV p f r hd = some ps ∧ e = .returned (.tuple #[v, .nilIface]) ∧ w'.ownsRow w.heap.size 104 3 v ps.length (segL ps) ∧ ∀ g, v.ownBlock = some g → ¬ O' g) := by
  unfold walkV
  cases hf : followV p f r r.sz.toNat hd with
  | none =>
    refine (walk_nf r hr0 hc hd h hA hG hf).mono ?_
    rintro e w' ⟨rfl, O', h1, h2⟩
    exact ⟨O', h1, h2, .inl ⟨rfl, rfl⟩⟩
  | some l =>
    cases ho : oddL p 0 false l with
    | true =>
      refine (walk_odd r hr0 hc hd h hA hG l hf ho).mono ?_
      rintro e w' ⟨rfl, O', h1, h2⟩
      exact ⟨O', h1, h2, .inl ⟨by simp [ho], rfl⟩⟩
    | false =>
      refine (walk_ok r hr0 hc hd h hA hG l hf ho).mono ?_
      rintro e w' ⟨O', v, rfl, h1, h2, h3, h4⟩
      exact ⟨O', h1, h2, .inr ⟨l.map sgOf, v, by simp [ho], rfl, by rw [List.length_map]; exact h3, h4⟩⟩
theorem gathF_small {f : Nat → Nat} (hf : ∀ x, f x < 256) (l : List Sg) : ∀ y ∈ gathF f l, y < 256 := by
  intro y hy
  obtain ⟨s, _, hs⟩ := List.mem_flatMap.1 hy
  obtain ⟨j, _, rfl⟩ := List.mem_map.1 hs
  exact hf _
/-- The bytes of the parts that are written, or read. -/
def sumR (wr : Bool) : List Sg → Nat
  | [] => 0
  | s :: t => (if s.wr = wr then s.n.toNat else 0) + sumR wr t
theorem sumR_le (wr : Bool) : ∀ (l : List Sg), sumR wr l ≤ (l.map fun s => s.n.toNat).sum
  | [] => Nat.le_refl _
  | s :: t => by
    have := sumR_le wr t
    simp only [sumR, List.map_cons, List.sum_cons]
    split <;> omega
theorem room_sum (wr : Bool) : ∀ (l : List Sg) (a : Int), 0 ≤ a → (∀ s ∈ l, 0 ≤ s.n) → a + (sumR wr l : Int) ≤ 9223372036854775807 → roomV wr a l = a + (sumR wr l : Int)
  | [], a, _, _, _ => by simp [roomV, sumR]
  | s :: t, a, h0, hn, hb => by
    have hs := hn s (List.mem_cons_self ..)
    simp only [sumR] at hb ⊢
    simp only [roomV]
    by_cases hw : s.wr = wr
    · rw [if_pos hw] at hb ⊢
      have e : moreN a s.n = a + s.n := by unfold moreN; rw [if_pos hs, if_pos (by omega)]
      rw [if_pos hw, e, room_sum wr t (a + s.n) (by omega) (fun x hx => hn x (List.mem_cons_of_mem _ hx)) (by omega)]
      omega
    · rw [if_neg hw] at hb ⊢
      rw [if_neg hw, room_sum wr t a h0 (fun x hx => hn x (List.mem_cons_of_mem _ hx)) (by omega)]
      omega
theorem gath_len (f : Nat → Nat) : ∀ (l : List Sg) (n : Int), (∀ s ∈ l, 0 ≤ s.n) → (sumR false l : Int) ≤ n → (gathF f (partsV false n l)).length = sumR false l
  | [], n, _, _ => rfl
  | s :: t, n, hn, hb => by
    have hs := hn s (List.mem_cons_self ..)
    have ih := fun n h => gath_len f t n (fun x hx => hn x (List.mem_cons_of_mem _ hx)) h
    simp only [sumR] at hb ⊢
    simp only [partsV]
    by_cases hw : s.wr = false
    · rw [if_pos hw] at hb ⊢
      by_cases h1 : 0 < s.n
      · rw [if_pos ⟨hw, h1, by omega⟩, if_pos (by omega)]
        show (segF f _ ++ gathF f _).length = _
        rw [List.length_append, segF_len, ih _ (by omega)]
      · rw [if_neg (fun e => h1 e.2.1), ih n (by omega)]
        omega
    · rw [if_neg hw] at hb ⊢
      rw [if_neg (fun e => hw e.1), ih n (by omega)]
      omega
theorem PartsOk.rooms {p : Nat} {ps : List Sg} (h : PartsOk p ps) (wr : Bool) : roomV wr 0 ps = (sumR wr ps : Int) ∧ sumR wr ps ≤ 1048576 := by
  have h1 := sumR_le wr ps
  have h2 := h.tot
  refine ⟨by rw [room_sum wr ps 0 (by decide) (fun s hs => (h.ok s hs).2) (by omega)]; omega, by omega⟩
variable {P : Program} {ops : Array Oper} {rest : List Oper} {dst : Option Tmp} {ty t : TypeId} {pos : String} {after : Array Edge} {a : Act} {w : World} {Q : Exit → Act → World → Prop} {K : Act → World → Prop} {x y : Operand} {gd : Option (Nat × Bool)}
/-- append where there is room: in its place. -/
theorem op_appf (t e : TypeId) (i : TypeInfo) (size : Nat) (ht : P.underlying t = some (.slice e)) (hi : P.info? e = some i) (hs : i.size = size) {B g n cap : Nat} {xs : List Value}
    (hown : w.ownsRow B e size (.slice (some ⟨g, 0, none⟩) n cap) n xs) (s : Addr) (m sc : Nat) (news : List Value) (hl : news.length = m * size) (hnews : ∀ j u, news[j]? = some u → w.cell? (s.add j) = some u) (h1 : ∀ u ∈ news, u.oneCell' = true) (hroom : n + m ≤ cap)
    (hx : a.eval x = .slice (some ⟨g, 0, none⟩) n cap) (hy : a.eval y = .slice (some s) m sc)
    (k : ∀ W, W.ownsRow B e size (.slice (some ⟨g, 0, none⟩) (n + m) cap) (n + m) (xs ++ news) → w.grownBy W (some g) → wpList P ops Q rest (a.put dst (.slice (some ⟨g, 0, none⟩) (n + m) cap)) W) :
    wpList P ops Q (⟨dst, .call { callee := .builtin .append, args := #[x, y], argTypes := #[t, t] }, t, pos, after, none⟩ :: rest) a w := by
  obtain ⟨W, a1, a2, a3⟩ := run_append_fits (P := P) (w := w) B t t e i size ht hi hs g n cap xs hown s m sc news hl hnews h1 hroom
  refine wpList_plain rfl fun K hK => ?_
  unfold Oper.wp
  have : (execOp a.eval ⟨dst, .call { callee := .builtin .append, args := #[x, y], argTypes := #[t, t] }, t, pos, after, none⟩).run P w = .ok (.value (.slice (some ⟨g, 0, none⟩) (n + m) cap)) W := by
    simp [execOp, resolve, invoke, builtin, hx, hy, a1, Result.andThen]
  rw [this, Oper.upon_value]
  exact hK _ _ (k W a2 a3)
end Go.Proofs.YtbggkoahofnnjaaDoor
