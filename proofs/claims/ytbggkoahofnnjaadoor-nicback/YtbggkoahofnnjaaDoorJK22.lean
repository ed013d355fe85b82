/-
  What ring's Next answers of any ring, in any memory.
-/
import Derived.Test.YtbggkoahofnnjaaDoorJK15
namespace Go.Proofs.YtbggkoahofnnjaaDoor
open Go.RowKit
set_option linter.unusedVariables false
set_option linter.unusedSimpArgs false

attribute [local go_sem] Rg.at0 Rg.at1 Rg.at2 Rg.at3 Rg.at4 Rg.at5
set_option maxHeartbeats 1000000 in
theorem next_bad (r : Rg) (hr0 : r.Ok) (hc : chkR r = false) (b : Nat) (w : World) : Calls Tryd.prog 28 #[.agg r.cells, .pointer (some ⟨b, 0, none⟩)] w fun e w' => e = .returned (.tuple #[.agg zeroRg.cells, .int .i64 0, .bool false, .iface 59 (.int .i64 1)]) ∧ Below w.heap.size w w' := by
  have HC : Hid (∀ W, Calls Tryd.prog 42 #[.agg r.cells, .pointer (some ⟨b, 0, none⟩)] W fun e w' => e = .returned (.iface 59 (.int .i64 1)) ∧ Below W.heap.size W w') := hide (fun W => by have := rcheckw_any r hr0 b W; rw [hc] at this; exact this)
  clear hc hr0
  go_enter Tryd.func28, Tryd.ntmps28
  go_wp2_with (first | ((with_reducible refine bx_rp w.heap.size r ?_ ?_ ?_); exact rfl; exact rfl; intro W hr hb hz) | ((with_reducible refine al_rp (w.heap.size + 1) ?_ ?_); exact hz.out; intro W hq hb' hz'; replace hr := hr.bl (hz.out ▸ hb'); replace hb := hb.trans (hb'.mono (by omega)); replace hz := hz') | ((with_reducible refine ld_rp w.heap.size _ hr ?_ ?_ ?_); exact rfl; exact rfl) | (go_at_call 42; (with_reducible refine (HC.out _).mono ?_); rintro e W ⟨rfl, hbc⟩; replace hr := hr.bl hbc; replace hq := hq.bl hbc; replace hb := below_bl rfl hb hbc) | ((with_reducible refine st_rp (w.heap.size + 1) _ zeroRg hq ?_ ?_ ?_); exact rfl; exact rfl; intro W hnew ho; replace hr := hr.only ho (by omega); replace hq := hnew; replace hb := ho.bel _ _ (by omega) hb))
  refine bodyPost_ret (results_cell_uuu Tryd.results28 _ _ (w.heap.size + 1) _ _ _ rfl hq Tryd.underlying36 rfl size_rp) rfl ?_
  exact ⟨rfl, hb⟩
set_option maxHeartbeats 1000000 in
theorem next_out (r : Rg) (hr0 : r.Ok) (hc : chkR r = true) {w : World} {B b p c : Nat} {f : Nat → Nat} {O : Nat → Prop} (h : RamB w B b p f c O) (hA : AreasAt w) (hG : 0 < B)  (h0 : plB p (avC r) 2 = false) : Calls Tryd.prog 28 #[.agg r.cells, .pointer (some ⟨b, 0, none⟩)] w fun e w' => e = .returned (.tuple #[.agg zeroRg.cells, .int .i64 0, .bool false, .iface 59 (.int .i64 22)]) ∧ ∃ O', RamB w' B b p f c O' ∧ Went B O O' w w' := by
  have hB0 := h.base
  have hGw : 0 < w.heap.size := Nat.lt_of_lt_of_le hG hB0
  have hA0 := hA
  clear hA
  obtain ⟨k, hk, hk0, hk1⟩ := chkR_sz hc
  obtain ⟨al1, al2, al3⟩ := chkR_al hc
  have HC : Hid (∀ W, Calls Tryd.prog 42 #[.agg r.cells, .pointer (some ⟨b, 0, none⟩)] W fun e w' => e = .returned .nilIface ∧ Below W.heap.size W w') := hide (fun W => by have := rcheckw_any r hr0 b W; rw [hc] at this; exact this)
  have hla := hr0.la
  have hav := hr0.av
  have HL1 : Hid (∀ W O1, RamB W B b p f c O1 → AreasAt W → Calls Tryd.prog 43 #[.pointer (some ⟨b, 0, none⟩), .int .u32 (avC r : Nat), .int .i64 2] W fun e w' => e = .returned (.tuple #[.int .u32 0, .iface 59 (.int .i64 22)]) ∧ ∃ O', RamB w' B b p f c O' ∧ Went B O1 O' W w') := hide (fun W O1 hM hA => rload_no hM hA hG (avC r) 2 (by unfold avC t32; omega) (by decide) (by unfold avC t32; omega) h0)
  have e1 : ((r.av : Int) + 2) % 4294967296 = ((avC r : Nat) : Int) := by unfold avC t32; omega
  generalize avC r = aC at *
  clear hk hr0 hc al1 al2 al3 h0
  go_enter Tryd.func28, Tryd.ntmps28
  go_wp2_with (first | ((with_reducible refine bx_rp w.heap.size r ?_ ?_ ?_); exact rfl; exact rfl; intro W hr hb hz) | ((with_reducible refine al_rp (w.heap.size + 1) ?_ ?_); exact hz.out; intro W hq hb' hz'; replace hr := hr.bl (hz.out ▸ hb'); replace hb := hb.trans (hb'.mono (by omega)); replace hz := hz'; have hM := h.bl hb; have hW := Went.of (O := O) hb hB0; have hA := hA0.bl hb; have hF := h.far 2; have hS : w.heap.size + 2 ≤ W.heap.size := Nat.le_of_eq hz.out.symm; have hB : B ≤ W.heap.size := Nat.le_trans hB0 hb.size; clear hb hz hb' hz') | ((with_reducible refine ld_rp w.heap.size _ hr ?_ ?_ ?_); exact rfl; exact rfl) | (go_at_call 42; (with_reducible refine (HC.out _).mono ?_); rintro e W ⟨rfl, hbc⟩; replace hM := hM.bl hbc; replace hW := hW.bl hbc hB; replace hA := hA.bl hbc; replace hB := Nat.le_trans hB hbc.size; replace hS := Nat.le_trans hS hbc.size; replace hr := hr.bl hbc; replace hq := hq.bl hbc) | ((with_reducible refine ld_rav w.heap.size _ _ hr ?_ ?_ ?_); exact rfl; exact rfl) | ((with_reducible refine ld_rla w.heap.size _ _ hr ?_ ?_ ?_); exact rfl; exact rfl) | (go_at_call 43; (with_reducible refine (HL1.out _ _ hM hA).mono ?_); rintro e W2 ⟨rfl, O2, hM2, hW2⟩; replace hr := hW2.row hr (hF.at 0 (by omega)); replace hq := hW2.row hq (hF.at 1 (by omega)); replace hA := hA.wentR hG hW2; replace hF := hF.went hW2 hS; replace hS := Nat.le_trans hS hW2.size; replace hW := hW.trans hW2; replace hB := Nat.le_trans hB hW2.size; replace hM := hM2; clear hM2 hW2) | ((with_reducible refine st_rp (w.heap.size + 1) _ zeroRg hq ?_ ?_ ?_); exact rfl; exact rfl; intro W hnew ho; replace hr := hr.only ho (by omega); replace hM := hM.only ho (hF.at 1 (by omega)); replace hA := hA.onlyR ho (by omega); replace hW := hW.only ho (by omega) (by omega); replace hS := (show w.heap.size + 2 ≤ W.heap.size by rw [ho.size]; exact hS); replace hB := (show B ≤ W.heap.size by rw [ho.size]; exact hB); replace hq := hnew; clear hnew ho))
  refine bodyPost_ret (results_cell_uuu Tryd.results28 _ _ (w.heap.size + 1) _ _ _ rfl hq Tryd.underlying36 rfl size_rp) rfl ?_
  exact ⟨rfl, _, hM, hW⟩
set_option maxHeartbeats 2000000 in
theorem next_far (r : Rg) (hr0 : r.Ok) (hc : chkR r = true) {w : World} {B b p c : Nat} {f : Nat → Nat} {O : Nat → Prop} (h : RamB w B b p f c O) (hA : AreasAt w) (hG : 0 < B) (h0 : plB p (avC r) 2 = true) (h1 : ahN r (numF f (plM (avC r)) 2) ≠ 0) (h3 : plB p (avH r) 2 = false) :
    Calls Tryd.prog 28 #[.agg r.cells, .pointer (some ⟨b, 0, none⟩)] w fun e w' => e = .returned (.tuple #[.agg zeroRg.cells, .int .i64 0, .bool false, .iface 59 (.int .i64 22)]) ∧ ∃ O', RamB w' B b p f c O' ∧ Went B O O' w w' := by
  have hB0 := h.base
  have hGw : 0 < w.heap.size := Nat.lt_of_lt_of_le hG hB0
  have hA0 := hA
  clear hA
  obtain ⟨k, hk, hk0, hk1⟩ := chkR_sz hc
  obtain ⟨al1, al2, al3⟩ := chkR_al hc
  have HC : Hid (∀ W, Calls Tryd.prog 42 #[.agg r.cells, .pointer (some ⟨b, 0, none⟩)] W fun e w' => e = .returned .nilIface ∧ Below W.heap.size W w') := hide (fun W => by have := rcheckw_any r hr0 b W; rw [hc] at this; exact this)
  have hla := hr0.la
  have hav := hr0.av
  have HL1 : Hid (∀ W O1, RamB W B b p f c O1 → AreasAt W → Calls Tryd.prog 43 #[.pointer (some ⟨b, 0, none⟩), .int .u32 (avC r : Nat), .int .i64 2] W fun e w' => e = .returned (.tuple #[.int .u32 (numF f (plM (avC r)) 2 : Nat), .nilIface]) ∧ ∃ O', RamB w' B b p f c O' ∧ Went B O1 O' W w') := hide (fun W O1 hM hA => rload_ok hM hA hG (avC r) 2 (by unfold avC t32; omega) (by decide) (by unfold avC t32; omega) h0)
  have hcl : numF f (plM (avC r)) 2 < 65536 := numF_lt h.small _ 2
  have e1 : ((r.av : Int) + 2) % 4294967296 = ((avC r : Nat) : Int) := by unfold avC t32; omega
  have ew : IntKind.u16.wrap (((numF f (plM (avC r)) 2 : Nat) : Int) - (r.la : Int)) = ((ahN r (numF f (plM (avC r)) 2) : Nat) : Int) := by rw [IntKind.wrap_u16]; unfold ahN; omega
  have ea : (((numF f (plM (avC r)) 2 : Nat) : Int) - (r.la : Int)) % 65536 = ((ahN r (numF f (plM (avC r)) 2) : Nat) : Int) := by unfold ahN; omega
  have HL2 : Hid (∀ W O1, RamB W B b p f c O1 → AreasAt W → Calls Tryd.prog 43 #[.pointer (some ⟨b, 0, none⟩), .int .u32 (avH r : Nat), .int .i64 2] W fun e w' => e = .returned (.tuple #[.int .u32 0, .iface 59 (.int .i64 22)]) ∧ ∃ O', RamB w' B b p f c O' ∧ Went B O1 O' W w') := hide (fun W O1 hM hA => rload_no hM hA hG (avH r) 2 (by unfold avH t32; omega) (by decide) (by unfold avH t32; omega) h3)
  have hsl := slotN_lt hc r.la
  have HS : Hid (∀ W, Calls Tryd.prog 44 #[.agg r.cells, .int .u16 (r.la : Nat)] W fun e w' => e = .returned (.int .u32 (slotN r r.la : Nat)) ∧ Below W.heap.size W w') := hide (fun W => slot_any r hc r.la hla W)
  have e2 : (((r.av : Int) + 4) % 4294967296 + (2 * ((slotN r r.la : Nat) : Int))) % 4294967296 = ((avH r : Nat) : Int) := by unfold avH t32; omega
  generalize avH r = aH at *
  generalize slotN r r.la = sl at *
  have e3 : Hid (IntKind.u32.wrap (2 * (sl : Int)) = 2 * (sl : Int)) := hide (by rw [IntKind.wrap_u32]; omega)
  have e4 : Hid (IntKind.u32.wrap ((r.av : Int) + 4) = ((r.av : Int) + 4) % 4294967296) := hide (by rw [IntKind.wrap_u32])
  have e5 : Hid (IntKind.u32.wrap (((r.av : Int) + 4) % 4294967296 + (2 * ((sl : Nat) : Int))) = (aH : Int)) := hide (by rw [IntKind.wrap_u32]; exact e2)
  generalize numF f (plM (avC r)) 2 = cnt at *
  generalize avC r = aC at *
  have hal : ahN r cnt < 65536 := Nat.mod_lt _ (by decide)
  generalize ahN r cnt = ah at *
  have t1 : ((ah : Int) == 0) = false := by simp; omega
  clear hk hr0 hc al1 al2 al3 h0 h1 h3 e2
  go_enter Tryd.func28, Tryd.ntmps28
  go_wp2_with (first | ((with_reducible refine bx_rp w.heap.size r ?_ ?_ ?_); exact rfl; exact rfl; intro W hr hb hz) | ((with_reducible refine al_rp (w.heap.size + 1) ?_ ?_); exact hz.out; intro W hq hb' hz'; replace hr := hr.bl (hz.out ▸ hb'); replace hb := hb.trans (hb'.mono (by omega)); replace hz := hz'; have hM := h.bl hb; have hW := Went.of (O := O) hb hB0; have hA := hA0.bl hb; have hF := h.far 2; have hS : w.heap.size + 2 ≤ W.heap.size := Nat.le_of_eq hz.out.symm; have hB : B ≤ W.heap.size := Nat.le_trans hB0 hb.size; clear hb hz hb' hz') | ((with_reducible refine ld_rp w.heap.size _ hr ?_ ?_ ?_); exact rfl; exact rfl) | (go_at_call 42; (with_reducible refine (HC.out _).mono ?_); rintro e W ⟨rfl, hbc⟩; replace hM := hM.bl hbc; replace hW := hW.bl hbc hB; replace hA := hA.bl hbc; replace hB := Nat.le_trans hB hbc.size; replace hS := Nat.le_trans hS hbc.size; replace hr := hr.bl hbc; replace hq := hq.bl hbc) | ((with_reducible refine ld_rav w.heap.size _ _ hr ?_ ?_ ?_); exact rfl; exact rfl) | ((with_reducible refine ld_rla w.heap.size _ _ hr ?_ ?_ ?_); exact rfl; exact rfl) | (go_at_call 43; (with_reducible refine (HL1.out _ _ hM hA).mono ?_); rintro e W2 ⟨rfl, O2, hM2, hW2⟩; replace hr := hW2.row hr (hF.at 0 (by omega)); replace hq := hW2.row hq (hF.at 1 (by omega)); replace hA := hA.wentR hG hW2; replace hF := hF.went hW2 hS; replace hS := Nat.le_trans hS hW2.size; replace hW := hW.trans hW2; replace hB := Nat.le_trans hB hW2.size; replace hM := hM2; clear hM2 hW2))
  refine wp_region_held_drew (S := (fun V => RowAt V w.heap.size r.cells 36)) (by kernel_rfl) ?_ (fun hHeld => ?_)
  · exact hr.dr
  replace hM := hM.dr
  replace hW := hW.dr
  replace hA := hA.drR
  replace hS : w.heap.size + 2 ≤ (World.drew _).heap.size := hS
  replace hB : B ≤ (World.drew _).heap.size := hB
  replace hq := hq.dr
  generalize World.drew _ = V at hHeld hM hW hA hS hB hq ⊢
  clear hr
  refine wpAnyH_take (i := 0) (oi := ?oi17) (v := .pointer (some ⟨b, 0, none⟩)) ?hi17 (by kernel_rfl) (by kernel_rfl) (by kernel_rfl) ?hQ17 ?hy17 (by assumption) ?rest17
  case hi17 => (simp only [List.getElem?_toArray, List.getElem?_cons_zero]; rfl)
  case hQ17 => exact fun _ _ _ h => h
  case hy17 => exact Or.inl ⟨by rfl, by (intro w hSw; (try dsimp only at hSw); go_simp )⟩
  simp only [Act.put, List.setIfInBounds_toArray, List.set_cons_zero, List.set_cons_succ]
  refine wpAnyH_take (i := 1) (oi := ?oi18) (v := .pointer (some ⟨w.heap.size, 2, none⟩)) ?hi18 (by kernel_rfl) (by kernel_rfl) (by kernel_rfl) ?hQ18 ?hy18 (by assumption) ?rest18
  case hi18 => (simp only [List.getElem?_toArray, List.getElem?_cons_zero, List.getElem?_cons_succ]; rfl)
  case hQ18 => exact fun _ _ _ h => h
  case hy18 => exact Or.inl ⟨by rfl, by (intro w hSw; (try dsimp only at hSw); go_simp )⟩
  simp only [Act.put, List.setIfInBounds_toArray, List.set_cons_zero, List.set_cons_succ]
  refine wpAnyH_take (i := 2) (oi := ?oi19) (v := .int .u32 (r.av : Nat)) ?hi19 (by kernel_rfl) (by kernel_rfl) (by kernel_rfl) ?hQ19 ?hy19 (by assumption) ?rest19
  case hi19 => (simp only [List.getElem?_toArray, List.getElem?_cons_zero, List.getElem?_cons_succ]; rfl)
  case hQ19 => exact fun _ _ _ h => h
  case hy19 => exact y_rav w.heap.size r _ (fun V hV => hV) rfl
  simp only [Act.put, List.setIfInBounds_toArray, List.set_cons_zero, List.set_cons_succ]
  refine wpAnyH_take (i := 3) (oi := ?oi20) (v := .int .u32 (((r.av : Int) + 4) % 4294967296)) ?hi20 (by kernel_rfl) (by kernel_rfl) (by kernel_rfl) ?hQ20 ?hy20 (by assumption) ?rest20
  case hi20 => (simp only [List.getElem?_toArray, List.getElem?_cons_zero, List.getElem?_cons_succ]; rfl)
  case hQ20 => exact fun _ _ _ h => h
  case hy20 => exact Or.inl ⟨by rfl, by (intro w hSw; (try dsimp only at hSw); go_simp ; exact e4.out)⟩
  simp only [Act.put, List.setIfInBounds_toArray, List.set_cons_zero, List.set_cons_succ]
  refine wpAnyH_take (i := 4) (oi := ?oi21) (v := .agg r.cells) ?hi21 (by kernel_rfl) (by kernel_rfl) (by kernel_rfl) ?hQ21 ?hy21 (by assumption) ?rest21
  case hi21 => (simp only [List.getElem?_toArray, List.getElem?_cons_zero, List.getElem?_cons_succ]; rfl)
  case hQ21 => exact fun _ _ _ h => h
  case hy21 => exact y_rp w.heap.size r (fun V hV => hV) rfl rfl
  simp only [Act.put, List.setIfInBounds_toArray, List.set_cons_zero, List.set_cons_succ]
  refine wpAnyH_take (i := 5) (oi := ?oi22) (v := .pointer (some ⟨w.heap.size, 4, none⟩)) ?hi22 (by kernel_rfl) (by kernel_rfl) (by kernel_rfl) ?hQ22 ?hy22 (by assumption) ?rest22
  case hi22 => (simp only [List.getElem?_toArray, List.getElem?_cons_zero, List.getElem?_cons_succ]; rfl)
  case hQ22 => exact fun _ _ _ h => h
  case hy22 => exact Or.inl ⟨by rfl, by (intro w hSw; (try dsimp only at hSw); go_simp )⟩
  simp only [Act.put, List.setIfInBounds_toArray, List.set_cons_zero, List.set_cons_succ]
  refine wpAnyH_take (i := 6) (oi := ?oi23) (v := .int .u16 (r.la : Nat)) ?hi23 (by kernel_rfl) (by kernel_rfl) (by kernel_rfl) ?hQ23 ?hy23 (by assumption) ?rest23
  case hi23 => (simp only [List.getElem?_toArray, List.getElem?_cons_zero, List.getElem?_cons_succ]; rfl)
  case hQ23 => exact fun _ _ _ h => h
  case hy23 => exact y_rla w.heap.size r _ (fun V hV => hV) rfl
  simp only [Act.put, List.setIfInBounds_toArray, List.set_cons_zero, List.set_cons_succ]
  refine wpAnyH_ready (rs := [7]) (by kernel_rfl) (by simp) ?_
  refine AllReadyH.cons (o := ?oi24) ?hi24 (fun K hK => ?_) AllReadyH.nil
  case hi24 => (simp only [List.getElem?_toArray, List.getElem?_cons_zero, List.getElem?_cons_succ]; rfl)
  rw [if_pos (by rfl)]
  go_simp
  (with_reducible refine (HS.out _).mono ?_)
  rintro e V2 ⟨rfl, hbc⟩
  have hH2 := hide (hHeld.bl hbc)
  replace hM := hM.bl hbc
  replace hW := hW.bl hbc hB
  replace hA := hA.bl hbc
  replace hB := Nat.le_trans hB hbc.size
  replace hS := Nat.le_trans hS hbc.size
  replace hq := hq.bl hbc
  clear hHeld hbc
  go_simp
  refine hK.out _ _ ?_ (fun hHeld => ?_)
  · exact hH2.out
  clear hK K
  clear hH2
  refine wpAnyH_take (i := 8) (oi := ?oi25) (v := .int .u32 (2 * (sl : Int))) ?hi25 (by kernel_rfl) (by kernel_rfl) (by kernel_rfl) ?hQ25 ?hy25 (by assumption) ?rest25
  case hi25 => (simp only [List.getElem?_toArray, List.getElem?_cons_zero, List.getElem?_cons_succ]; rfl)
  case hQ25 => exact fun _ _ _ h => h
  case hy25 => exact Or.inl ⟨by rfl, by (intro w hSw; (try dsimp only at hSw); go_simp ; exact e3.out)⟩
  simp only [Act.put, List.setIfInBounds_toArray, List.set_cons_zero, List.set_cons_succ]
  refine wpAnyH_take (i := 9) (oi := ?oi26) (v := .int .u32 (aH : Nat)) ?hi26 (by kernel_rfl) (by kernel_rfl) (by kernel_rfl) ?hQ26 ?hy26 (by assumption) ?rest26
  case hi26 => (simp only [List.getElem?_toArray, List.getElem?_cons_zero, List.getElem?_cons_succ]; rfl)
  case hQ26 => exact fun _ _ _ h => h
  case hy26 => exact Or.inl ⟨by rfl, by (intro w hSw; (try dsimp only at hSw); go_simp ; exact e5.out)⟩
  simp only [Act.put, List.setIfInBounds_toArray, List.set_cons_zero, List.set_cons_succ]
  refine wpAnyH_ready (rs := [10]) (by kernel_rfl) (by simp) ?_
  refine AllReadyH.cons (o := ?oi27) ?hi27 (fun K hK => ?_) AllReadyH.nil
  case hi27 => (simp only [List.getElem?_toArray, List.getElem?_cons_zero, List.getElem?_cons_succ]; rfl)
  rw [if_pos (by rfl)]
  go_simp
  (with_reducible refine (HL2.out _ _ hM hA).mono ?_)
  rintro e V2 ⟨rfl, O2, hM2, hW2⟩
  have hH2 := hide (hW2.row hHeld (hF.at 0 (by omega)))
  replace hq := hW2.row hq (hF.at 1 (by omega))
  replace hA := hA.wentR hG hW2
  replace hF := hF.went hW2 hS
  replace hS := Nat.le_trans hS hW2.size
  replace hW := hW.trans hW2
  replace hB := Nat.le_trans hB hW2.size
  replace hM := hM2
  clear hM2 hW2 hHeld
  go_simp
  refine hK.out _ _ ?_ (fun hHeld => ?_)
  · exact hH2.out
  clear hK K
  clear hH2
  refine wpAnyH_take (i := 11) (oi := ?oi28) (v := .tuple #[.int .u32 0, (.iface 59 (.int .i64 22))]) ?hi28 (by kernel_rfl) (by kernel_rfl) (by kernel_rfl) ?hQ28 ?hy28 (by assumption) ?rest28
  case hi28 => (simp only [List.getElem?_toArray, List.getElem?_cons_zero, List.getElem?_cons_succ]; rfl)
  case hQ28 => exact fun _ _ _ h => h
  case hy28 => exact Or.inl ⟨by rfl, by (intro w hSw; (try dsimp only at hSw); go_simp )⟩
  simp only [Act.put, List.setIfInBounds_toArray, List.set_cons_zero, List.set_cons_succ]
  refine wpAnyH_take (i := 12) (oi := ?oi29) (v := .int .u32 0) ?hi29 (by kernel_rfl) (by kernel_rfl) (by kernel_rfl) ?hQ29 ?hy29 (by assumption) ?rest29
  case hi29 => (simp only [List.getElem?_toArray, List.getElem?_cons_zero, List.getElem?_cons_succ]; rfl)
  case hQ29 => exact fun _ _ _ h => h
  case hy29 => exact Or.inl ⟨by rfl, by (intro w hSw; (try dsimp only at hSw); go_simp )⟩
  simp only [Act.put, List.setIfInBounds_toArray, List.set_cons_zero, List.set_cons_succ]
  refine wpAnyH_take (i := 13) (oi := ?oi30) (v := (.iface 59 (.int .i64 22))) ?hi30 (by kernel_rfl) (by kernel_rfl) (by kernel_rfl) ?hQ30 ?hy30 (by assumption) ?rest30
  case hi30 => (simp only [List.getElem?_toArray, List.getElem?_cons_zero, List.getElem?_cons_succ]; rfl)
  case hQ30 => exact fun _ _ _ h => h
  case hy30 => exact Or.inl ⟨by rfl, by (intro w hSw; (try dsimp only at hSw); go_simp )⟩
  simp only [Act.put, List.setIfInBounds_toArray, List.set_cons_zero, List.set_cons_succ]
  refine wpAnyH_take (i := 14) (oi := ?oi31) (v := .int .u32 0) ?hi31 (by kernel_rfl) (by kernel_rfl) (by kernel_rfl) ?hQ31 ?hy31 (by assumption) ?rest31
  case hi31 => (simp only [List.getElem?_toArray, List.getElem?_cons_zero, List.getElem?_cons_succ]; rfl)
  case hQ31 => exact fun _ _ _ h => h
  case hy31 => exact Or.inl ⟨by rfl, by (intro w hSw; (try dsimp only at hSw); go_simp )⟩
  simp only [Act.put, List.setIfInBounds_toArray, List.set_cons_zero, List.set_cons_succ]
  refine wpAnyH_take (i := 15) (oi := ?oi32) (v := (.iface 59 (.int .i64 22))) ?hi32 (by kernel_rfl) (by kernel_rfl) (by kernel_rfl) ?hQ32 ?hy32 (by assumption) ?rest32
  case hi32 => (simp only [List.getElem?_toArray, List.getElem?_cons_zero, List.getElem?_cons_succ]; rfl)
  case hQ32 => exact fun _ _ _ h => h
  case hy32 => exact Or.inl ⟨by rfl, by (intro w hSw; (try dsimp only at hSw); go_simp )⟩
  simp only [Act.put, List.setIfInBounds_toArray, List.set_cons_zero, List.set_cons_succ]
  refine wpAnyH_done (by kernel_rfl) ?_ _
  have hr := hHeld
  clear hHeld
  go_wp2_with (first | ((with_reducible refine ld_rsz w.heap.size _ _ hr ?_ ?_ ?_); exact rfl; exact rfl) | ((with_reducible refine ld_rla w.heap.size _ _ hr ?_ ?_ ?_); exact rfl; exact rfl) | ((with_reducible refine ld_rp w.heap.size _ hr ?_ ?_ ?_); exact rfl; exact rfl) | ((with_reducible refine st_rp (w.heap.size + 1) _ zeroRg hq ?_ ?_ ?_); exact rfl; exact rfl; intro W hnew ho; replace hr := hr.only ho (by omega); replace hM := hM.only ho (hF.at 1 (by omega)); replace hA := hA.onlyR ho (by omega); replace hW := hW.only ho (by omega) (by omega); replace hS := (show w.heap.size + 2 ≤ W.heap.size by rw [ho.size]; exact hS); replace hB := (show B ≤ W.heap.size by rw [ho.size]; exact hB); replace hq := hnew; clear hnew ho))
  refine bodyPost_ret (results_cell_uuu Tryd.results28 _ _ (w.heap.size + 1) _ _ _ rfl hq Tryd.underlying36 rfl size_rp) rfl ?_
  exact ⟨rfl, _, hM, hW⟩
set_option maxHeartbeats 2000000 in
theorem next_many (r : Rg) (hr0 : r.Ok) (hc : chkR r = true) {w : World} {B b p c : Nat} {f : Nat → Nat} {O : Nat → Prop} (h : RamB w B b p f c O) (hA : AreasAt w) (hG : 0 < B) (h0 : plB p (avC r) 2 = true) (h1 : ahN r (numF f (plM (avC r)) 2) ≠ 0) (h2 : r.sz < (ahN r (numF f (plM (avC r)) 2) : Int)) (h3 : plB p (avH r) 2 = true) :
    Calls Tryd.prog 28 #[.agg r.cells, .pointer (some ⟨b, 0, none⟩)] w fun e w' => e = .returned (.tuple #[.agg zeroRg.cells, .int .i64 0, .bool false, .iface 59 (.int .i64 22)]) ∧ ∃ O', RamB w' B b p f c O' ∧ Went B O O' w w' := by
  have hB0 := h.base
  have hGw : 0 < w.heap.size := Nat.lt_of_lt_of_le hG hB0
  have hA0 := hA
  clear hA
  obtain ⟨k, hk, hk0, hk1⟩ := chkR_sz hc
  obtain ⟨al1, al2, al3⟩ := chkR_al hc
  have HC : Hid (∀ W, Calls Tryd.prog 42 #[.agg r.cells, .pointer (some ⟨b, 0, none⟩)] W fun e w' => e = .returned .nilIface ∧ Below W.heap.size W w') := hide (fun W => by have := rcheckw_any r hr0 b W; rw [hc] at this; exact this)
  have hla := hr0.la
  have hav := hr0.av
  have HL1 : Hid (∀ W O1, RamB W B b p f c O1 → AreasAt W → Calls Tryd.prog 43 #[.pointer (some ⟨b, 0, none⟩), .int .u32 (avC r : Nat), .int .i64 2] W fun e w' => e = .returned (.tuple #[.int .u32 (numF f (plM (avC r)) 2 : Nat), .nilIface]) ∧ ∃ O', RamB w' B b p f c O' ∧ Went B O1 O' W w') := hide (fun W O1 hM hA => rload_ok hM hA hG (avC r) 2 (by unfold avC t32; omega) (by decide) (by unfold avC t32; omega) h0)
  have hcl : numF f (plM (avC r)) 2 < 65536 := numF_lt h.small _ 2
  have e1 : ((r.av : Int) + 2) % 4294967296 = ((avC r : Nat) : Int) := by unfold avC t32; omega
  have ew : IntKind.u16.wrap (((numF f (plM (avC r)) 2 : Nat) : Int) - (r.la : Int)) = ((ahN r (numF f (plM (avC r)) 2) : Nat) : Int) := by rw [IntKind.wrap_u16]; unfold ahN; omega
  have ea : (((numF f (plM (avC r)) 2 : Nat) : Int) - (r.la : Int)) % 65536 = ((ahN r (numF f (plM (avC r)) 2) : Nat) : Int) := by unfold ahN; omega
  have HL2 : Hid (∀ W O1, RamB W B b p f c O1 → AreasAt W → Calls Tryd.prog 43 #[.pointer (some ⟨b, 0, none⟩), .int .u32 (avH r : Nat), .int .i64 2] W fun e w' => e = .returned (.tuple #[.int .u32 (numF f (plM (avH r)) 2 : Nat), .nilIface]) ∧ ∃ O', RamB w' B b p f c O' ∧ Went B O1 O' W w') := hide (fun W O1 hM hA => rload_ok hM hA hG (avH r) 2 (by unfold avH t32; omega) (by decide) (by unfold avH t32; omega) h3)
  have hsl := slotN_lt hc r.la
  have HS : Hid (∀ W, Calls Tryd.prog 44 #[.agg r.cells, .int .u16 (r.la : Nat)] W fun e w' => e = .returned (.int .u32 (slotN r r.la : Nat)) ∧ Below W.heap.size W w') := hide (fun W => slot_any r hc r.la hla W)
  have e2 : (((r.av : Int) + 4) % 4294967296 + (2 * ((slotN r r.la : Nat) : Int))) % 4294967296 = ((avH r : Nat) : Int) := by unfold avH t32; omega
  have hdl : numF f (plM (avH r)) 2 < 65536 := numF_lt h.small _ 2
  generalize numF f (plM (avH r)) 2 = hd at *
  generalize avH r = aH at *
  generalize slotN r r.la = sl at *
  have e3 : Hid (IntKind.u32.wrap (2 * (sl : Int)) = 2 * (sl : Int)) := hide (by rw [IntKind.wrap_u32]; omega)
  have e4 : Hid (IntKind.u32.wrap ((r.av : Int) + 4) = ((r.av : Int) + 4) % 4294967296) := hide (by rw [IntKind.wrap_u32])
  have e5 : Hid (IntKind.u32.wrap (((r.av : Int) + 4) % 4294967296 + (2 * ((sl : Nat) : Int))) = (aH : Int)) := hide (by rw [IntKind.wrap_u32]; exact e2)
  generalize numF f (plM (avC r)) 2 = cnt at *
  generalize avC r = aC at *
  have hal : ahN r cnt < 65536 := Nat.mod_lt _ (by decide)
  generalize ahN r cnt = ah at *
  have t1 : ((ah : Int) == 0) = false := by simp; omega
  have t2 : decide (r.sz < (ah : Int)) = true := by simp; omega
  have t2b : (ah : Int) > r.sz := by omega
  clear hk hr0 hc al1 al2 al3 h0 h1 h3 e2
  go_enter Tryd.func28, Tryd.ntmps28
  go_wp2_with (first | ((with_reducible refine bx_rp w.heap.size r ?_ ?_ ?_); exact rfl; exact rfl; intro W hr hb hz) | ((with_reducible refine al_rp (w.heap.size + 1) ?_ ?_); exact hz.out; intro W hq hb' hz'; replace hr := hr.bl (hz.out ▸ hb'); replace hb := hb.trans (hb'.mono (by omega)); replace hz := hz'; have hM := h.bl hb; have hW := Went.of (O := O) hb hB0; have hA := hA0.bl hb; have hF := h.far 2; have hS : w.heap.size + 2 ≤ W.heap.size := Nat.le_of_eq hz.out.symm; have hB : B ≤ W.heap.size := Nat.le_trans hB0 hb.size; clear hb hz hb' hz') | ((with_reducible refine ld_rp w.heap.size _ hr ?_ ?_ ?_); exact rfl; exact rfl) | (go_at_call 42; (with_reducible refine (HC.out _).mono ?_); rintro e W ⟨rfl, hbc⟩; replace hM := hM.bl hbc; replace hW := hW.bl hbc hB; replace hA := hA.bl hbc; replace hB := Nat.le_trans hB hbc.size; replace hS := Nat.le_trans hS hbc.size; replace hr := hr.bl hbc; replace hq := hq.bl hbc) | ((with_reducible refine ld_rav w.heap.size _ _ hr ?_ ?_ ?_); exact rfl; exact rfl) | ((with_reducible refine ld_rla w.heap.size _ _ hr ?_ ?_ ?_); exact rfl; exact rfl) | (go_at_call 43; (with_reducible refine (HL1.out _ _ hM hA).mono ?_); rintro e W2 ⟨rfl, O2, hM2, hW2⟩; replace hr := hW2.row hr (hF.at 0 (by omega)); replace hq := hW2.row hq (hF.at 1 (by omega)); replace hA := hA.wentR hG hW2; replace hF := hF.went hW2 hS; replace hS := Nat.le_trans hS hW2.size; replace hW := hW.trans hW2; replace hB := Nat.le_trans hB hW2.size; replace hM := hM2; clear hM2 hW2))
  refine wp_region_held_drew (S := (fun V => RowAt V w.heap.size r.cells 36)) (by kernel_rfl) ?_ (fun hHeld => ?_)
  · exact hr.dr
  replace hM := hM.dr
  replace hW := hW.dr
  replace hA := hA.drR
  replace hS : w.heap.size + 2 ≤ (World.drew _).heap.size := hS
  replace hB : B ≤ (World.drew _).heap.size := hB
  replace hq := hq.dr
  generalize World.drew _ = V at hHeld hM hW hA hS hB hq ⊢
  clear hr
  refine wpAnyH_take (i := 0) (oi := ?oi33) (v := .pointer (some ⟨b, 0, none⟩)) ?hi33 (by kernel_rfl) (by kernel_rfl) (by kernel_rfl) ?hQ33 ?hy33 (by assumption) ?rest33
  case hi33 => (simp only [List.getElem?_toArray, List.getElem?_cons_zero]; rfl)
  case hQ33 => exact fun _ _ _ h => h
  case hy33 => exact Or.inl ⟨by rfl, by (intro w hSw; (try dsimp only at hSw); go_simp )⟩
  simp only [Act.put, List.setIfInBounds_toArray, List.set_cons_zero, List.set_cons_succ]
  refine wpAnyH_take (i := 1) (oi := ?oi34) (v := .pointer (some ⟨w.heap.size, 2, none⟩)) ?hi34 (by kernel_rfl) (by kernel_rfl) (by kernel_rfl) ?hQ34 ?hy34 (by assumption) ?rest34
  case hi34 => (simp only [List.getElem?_toArray, List.getElem?_cons_zero, List.getElem?_cons_succ]; rfl)
  case hQ34 => exact fun _ _ _ h => h
  case hy34 => exact Or.inl ⟨by rfl, by (intro w hSw; (try dsimp only at hSw); go_simp )⟩
  simp only [Act.put, List.setIfInBounds_toArray, List.set_cons_zero, List.set_cons_succ]
  refine wpAnyH_take (i := 2) (oi := ?oi35) (v := .int .u32 (r.av : Nat)) ?hi35 (by kernel_rfl) (by kernel_rfl) (by kernel_rfl) ?hQ35 ?hy35 (by assumption) ?rest35
  case hi35 => (simp only [List.getElem?_toArray, List.getElem?_cons_zero, List.getElem?_cons_succ]; rfl)
  case hQ35 => exact fun _ _ _ h => h
  case hy35 => exact y_rav w.heap.size r _ (fun V hV => hV) rfl
  simp only [Act.put, List.setIfInBounds_toArray, List.set_cons_zero, List.set_cons_succ]
  refine wpAnyH_take (i := 3) (oi := ?oi36) (v := .int .u32 (((r.av : Int) + 4) % 4294967296)) ?hi36 (by kernel_rfl) (by kernel_rfl) (by kernel_rfl) ?hQ36 ?hy36 (by assumption) ?rest36
  case hi36 => (simp only [List.getElem?_toArray, List.getElem?_cons_zero, List.getElem?_cons_succ]; rfl)
  case hQ36 => exact fun _ _ _ h => h
  case hy36 => exact Or.inl ⟨by rfl, by (intro w hSw; (try dsimp only at hSw); go_simp ; exact e4.out)⟩
  simp only [Act.put, List.setIfInBounds_toArray, List.set_cons_zero, List.set_cons_succ]
  refine wpAnyH_take (i := 4) (oi := ?oi37) (v := .agg r.cells) ?hi37 (by kernel_rfl) (by kernel_rfl) (by kernel_rfl) ?hQ37 ?hy37 (by assumption) ?rest37
  case hi37 => (simp only [List.getElem?_toArray, List.getElem?_cons_zero, List.getElem?_cons_succ]; rfl)
  case hQ37 => exact fun _ _ _ h => h
  case hy37 => exact y_rp w.heap.size r (fun V hV => hV) rfl rfl
  simp only [Act.put, List.setIfInBounds_toArray, List.set_cons_zero, List.set_cons_succ]
  refine wpAnyH_take (i := 5) (oi := ?oi38) (v := .pointer (some ⟨w.heap.size, 4, none⟩)) ?hi38 (by kernel_rfl) (by kernel_rfl) (by kernel_rfl) ?hQ38 ?hy38 (by assumption) ?rest38
  case hi38 => (simp only [List.getElem?_toArray, List.getElem?_cons_zero, List.getElem?_cons_succ]; rfl)
  case hQ38 => exact fun _ _ _ h => h
  case hy38 => exact Or.inl ⟨by rfl, by (intro w hSw; (try dsimp only at hSw); go_simp )⟩
  simp only [Act.put, List.setIfInBounds_toArray, List.set_cons_zero, List.set_cons_succ]
  refine wpAnyH_take (i := 6) (oi := ?oi39) (v := .int .u16 (r.la : Nat)) ?hi39 (by kernel_rfl) (by kernel_rfl) (by kernel_rfl) ?hQ39 ?hy39 (by assumption) ?rest39
  case hi39 => (simp only [List.getElem?_toArray, List.getElem?_cons_zero, List.getElem?_cons_succ]; rfl)
  case hQ39 => exact fun _ _ _ h => h
  case hy39 => exact y_rla w.heap.size r _ (fun V hV => hV) rfl
  simp only [Act.put, List.setIfInBounds_toArray, List.set_cons_zero, List.set_cons_succ]
  refine wpAnyH_ready (rs := [7]) (by kernel_rfl) (by simp) ?_
  refine AllReadyH.cons (o := ?oi40) ?hi40 (fun K hK => ?_) AllReadyH.nil
  case hi40 => (simp only [List.getElem?_toArray, List.getElem?_cons_zero, List.getElem?_cons_succ]; rfl)
  rw [if_pos (by rfl)]
  go_simp
  (with_reducible refine (HS.out _).mono ?_)
  rintro e V2 ⟨rfl, hbc⟩
  have hH2 := hide (hHeld.bl hbc)
  replace hM := hM.bl hbc
  replace hW := hW.bl hbc hB
  replace hA := hA.bl hbc
  replace hB := Nat.le_trans hB hbc.size
  replace hS := Nat.le_trans hS hbc.size
  replace hq := hq.bl hbc
  clear hHeld hbc
  go_simp
  refine hK.out _ _ ?_ (fun hHeld => ?_)
  · exact hH2.out
  clear hK K
  clear hH2
  refine wpAnyH_take (i := 8) (oi := ?oi41) (v := .int .u32 (2 * (sl : Int))) ?hi41 (by kernel_rfl) (by kernel_rfl) (by kernel_rfl) ?hQ41 ?hy41 (by assumption) ?rest41
  case hi41 => (simp only [List.getElem?_toArray, List.getElem?_cons_zero, List.getElem?_cons_succ]; rfl)
  case hQ41 => exact fun _ _ _ h => h
  case hy41 => exact Or.inl ⟨by rfl, by (intro w hSw; (try dsimp only at hSw); go_simp ; exact e3.out)⟩
  simp only [Act.put, List.setIfInBounds_toArray, List.set_cons_zero, List.set_cons_succ]
  refine wpAnyH_take (i := 9) (oi := ?oi42) (v := .int .u32 (aH : Nat)) ?hi42 (by kernel_rfl) (by kernel_rfl) (by kernel_rfl) ?hQ42 ?hy42 (by assumption) ?rest42
  case hi42 => (simp only [List.getElem?_toArray, List.getElem?_cons_zero, List.getElem?_cons_succ]; rfl)
  case hQ42 => exact fun _ _ _ h => h
  case hy42 => exact Or.inl ⟨by rfl, by (intro w hSw; (try dsimp only at hSw); go_simp ; exact e5.out)⟩
  simp only [Act.put, List.setIfInBounds_toArray, List.set_cons_zero, List.set_cons_succ]
  refine wpAnyH_ready (rs := [10]) (by kernel_rfl) (by simp) ?_
  refine AllReadyH.cons (o := ?oi43) ?hi43 (fun K hK => ?_) AllReadyH.nil
  case hi43 => (simp only [List.getElem?_toArray, List.getElem?_cons_zero, List.getElem?_cons_succ]; rfl)
  rw [if_pos (by rfl)]
  go_simp
  (with_reducible refine (HL2.out _ _ hM hA).mono ?_)
  rintro e V2 ⟨rfl, O2, hM2, hW2⟩
  have hH2 := hide (hW2.row hHeld (hF.at 0 (by omega)))
  replace hq := hW2.row hq (hF.at 1 (by omega))
  replace hA := hA.wentR hG hW2
  replace hF := hF.went hW2 hS
  replace hS := Nat.le_trans hS hW2.size
  replace hW := hW.trans hW2
  replace hB := Nat.le_trans hB hW2.size
  replace hM := hM2
  clear hM2 hW2 hHeld
  go_simp
  refine hK.out _ _ ?_ (fun hHeld => ?_)
  · exact hH2.out
  clear hK K
  clear hH2
  refine wpAnyH_take (i := 11) (oi := ?oi44) (v := .tuple #[.int .u32 (hd : Nat), .nilIface]) ?hi44 (by kernel_rfl) (by kernel_rfl) (by kernel_rfl) ?hQ44 ?hy44 (by assumption) ?rest44
  case hi44 => (simp only [List.getElem?_toArray, List.getElem?_cons_zero, List.getElem?_cons_succ]; rfl)
  case hQ44 => exact fun _ _ _ h => h
  case hy44 => exact Or.inl ⟨by rfl, by (intro w hSw; (try dsimp only at hSw); go_simp )⟩
  simp only [Act.put, List.setIfInBounds_toArray, List.set_cons_zero, List.set_cons_succ]
  refine wpAnyH_take (i := 12) (oi := ?oi45) (v := .int .u32 (hd : Nat)) ?hi45 (by kernel_rfl) (by kernel_rfl) (by kernel_rfl) ?hQ45 ?hy45 (by assumption) ?rest45
  case hi45 => (simp only [List.getElem?_toArray, List.getElem?_cons_zero, List.getElem?_cons_succ]; rfl)
  case hQ45 => exact fun _ _ _ h => h
  case hy45 => exact Or.inl ⟨by rfl, by (intro w hSw; (try dsimp only at hSw); go_simp )⟩
  simp only [Act.put, List.setIfInBounds_toArray, List.set_cons_zero, List.set_cons_succ]
  refine wpAnyH_take (i := 13) (oi := ?oi46) (v := .nilIface) ?hi46 (by kernel_rfl) (by kernel_rfl) (by kernel_rfl) ?hQ46 ?hy46 (by assumption) ?rest46
  case hi46 => (simp only [List.getElem?_toArray, List.getElem?_cons_zero, List.getElem?_cons_succ]; rfl)
  case hQ46 => exact fun _ _ _ h => h
  case hy46 => exact Or.inl ⟨by rfl, by (intro w hSw; (try dsimp only at hSw); go_simp )⟩
  simp only [Act.put, List.setIfInBounds_toArray, List.set_cons_zero, List.set_cons_succ]
  refine wpAnyH_take (i := 14) (oi := ?oi47) (v := .int .u32 (hd : Nat)) ?hi47 (by kernel_rfl) (by kernel_rfl) (by kernel_rfl) ?hQ47 ?hy47 (by assumption) ?rest47
  case hi47 => (simp only [List.getElem?_toArray, List.getElem?_cons_zero, List.getElem?_cons_succ]; rfl)
  case hQ47 => exact fun _ _ _ h => h
  case hy47 => exact Or.inl ⟨by rfl, by (intro w hSw; (try dsimp only at hSw); go_simp )⟩
  simp only [Act.put, List.setIfInBounds_toArray, List.set_cons_zero, List.set_cons_succ]
  refine wpAnyH_take (i := 15) (oi := ?oi48) (v := .nilIface) ?hi48 (by kernel_rfl) (by kernel_rfl) (by kernel_rfl) ?hQ48 ?hy48 (by assumption) ?rest48
  case hi48 => (simp only [List.getElem?_toArray, List.getElem?_cons_zero, List.getElem?_cons_succ]; rfl)
  case hQ48 => exact fun _ _ _ h => h
  case hy48 => exact Or.inl ⟨by rfl, by (intro w hSw; (try dsimp only at hSw); go_simp )⟩
  simp only [Act.put, List.setIfInBounds_toArray, List.set_cons_zero, List.set_cons_succ]
  refine wpAnyH_done (by kernel_rfl) ?_ _
  have hr := hHeld
  clear hHeld
  go_wp2_with (first | ((with_reducible refine ld_rsz w.heap.size _ _ hr ?_ ?_ ?_); exact rfl; exact rfl) | ((with_reducible refine ld_rla w.heap.size _ _ hr ?_ ?_ ?_); exact rfl; exact rfl) | ((with_reducible refine ld_rp w.heap.size _ hr ?_ ?_ ?_); exact rfl; exact rfl) | ((with_reducible refine st_rp (w.heap.size + 1) _ zeroRg hq ?_ ?_ ?_); exact rfl; exact rfl; intro W hnew ho; replace hr := hr.only ho (by omega); replace hM := hM.only ho (hF.at 1 (by omega)); replace hA := hA.onlyR ho (by omega); replace hW := hW.only ho (by omega) (by omega); replace hS := (show w.heap.size + 2 ≤ W.heap.size by rw [ho.size]; exact hS); replace hB := (show B ≤ W.heap.size by rw [ho.size]; exact hB); replace hq := hnew; clear hnew ho))
  refine bodyPost_ret (results_cell_uuu Tryd.results28 _ _ (w.heap.size + 1) _ _ _ rfl hq Tryd.underlying36 rfl size_rp) rfl ?_
  exact ⟨rfl, _, hM, hW⟩
set_option maxHeartbeats 2000000 in
theorem next_odd (r : Rg) (hr0 : r.Ok) (hc : chkR r = true) {w : World} {B b p c : Nat} {f : Nat → Nat} {O : Nat → Prop} (h : RamB w B b p f c O) (hA : AreasAt w) (hG : 0 < B) (h0 : plB p (avC r) 2 = true) (h1 : ahN r (numF f (plM (avC r)) 2) ≠ 0) (h2 : (ahN r (numF f (plM (avC r)) 2) : Int) ≤ r.sz) (h3 : plB p (avH r) 2 = true) (h4 : r.sz ≤ (numF f (plM (avH r)) 2 : Int)) :
    Calls Tryd.prog 28 #[.agg r.cells, .pointer (some ⟨b, 0, none⟩)] w fun e w' => e = .returned (.tuple #[.agg zeroRg.cells, .int .i64 0, .bool false, .iface 59 (.int .i64 22)]) ∧ ∃ O', RamB w' B b p f c O' ∧ Went B O O' w w' := by
  have hB0 := h.base
  have hGw : 0 < w.heap.size := Nat.lt_of_lt_of_le hG hB0
  have hA0 := hA
  clear hA
  obtain ⟨k, hk, hk0, hk1⟩ := chkR_sz hc
  obtain ⟨al1, al2, al3⟩ := chkR_al hc
  have HC : Hid (∀ W, Calls Tryd.prog 42 #[.agg r.cells, .pointer (some ⟨b, 0, none⟩)] W fun e w' => e = .returned .nilIface ∧ Below W.heap.size W w') := hide (fun W => by have := rcheckw_any r hr0 b W; rw [hc] at this; exact this)
  have hla := hr0.la
  have hav := hr0.av
  have HL1 : Hid (∀ W O1, RamB W B b p f c O1 → AreasAt W → Calls Tryd.prog 43 #[.pointer (some ⟨b, 0, none⟩), .int .u32 (avC r : Nat), .int .i64 2] W fun e w' => e = .returned (.tuple #[.int .u32 (numF f (plM (avC r)) 2 : Nat), .nilIface]) ∧ ∃ O', RamB w' B b p f c O' ∧ Went B O1 O' W w') := hide (fun W O1 hM hA => rload_ok hM hA hG (avC r) 2 (by unfold avC t32; omega) (by decide) (by unfold avC t32; omega) h0)
  have hcl : numF f (plM (avC r)) 2 < 65536 := numF_lt h.small _ 2
  have e1 : ((r.av : Int) + 2) % 4294967296 = ((avC r : Nat) : Int) := by unfold avC t32; omega
  have ew : IntKind.u16.wrap (((numF f (plM (avC r)) 2 : Nat) : Int) - (r.la : Int)) = ((ahN r (numF f (plM (avC r)) 2) : Nat) : Int) := by rw [IntKind.wrap_u16]; unfold ahN; omega
  have ea : (((numF f (plM (avC r)) 2 : Nat) : Int) - (r.la : Int)) % 65536 = ((ahN r (numF f (plM (avC r)) 2) : Nat) : Int) := by unfold ahN; omega
  have HL2 : Hid (∀ W O1, RamB W B b p f c O1 → AreasAt W → Calls Tryd.prog 43 #[.pointer (some ⟨b, 0, none⟩), .int .u32 (avH r : Nat), .int .i64 2] W fun e w' => e = .returned (.tuple #[.int .u32 (numF f (plM (avH r)) 2 : Nat), .nilIface]) ∧ ∃ O', RamB w' B b p f c O' ∧ Went B O1 O' W w') := hide (fun W O1 hM hA => rload_ok hM hA hG (avH r) 2 (by unfold avH t32; omega) (by decide) (by unfold avH t32; omega) h3)
  have hsl := slotN_lt hc r.la
  have HS : Hid (∀ W, Calls Tryd.prog 44 #[.agg r.cells, .int .u16 (r.la : Nat)] W fun e w' => e = .returned (.int .u32 (slotN r r.la : Nat)) ∧ Below W.heap.size W w') := hide (fun W => slot_any r hc r.la hla W)
  have e2 : (((r.av : Int) + 4) % 4294967296 + (2 * ((slotN r r.la : Nat) : Int))) % 4294967296 = ((avH r : Nat) : Int) := by unfold avH t32; omega
  have hdl : numF f (plM (avH r)) 2 < 65536 := numF_lt h.small _ 2
  generalize numF f (plM (avH r)) 2 = hd at *
  generalize avH r = aH at *
  generalize slotN r r.la = sl at *
  have e3 : Hid (IntKind.u32.wrap (2 * (sl : Int)) = 2 * (sl : Int)) := hide (by rw [IntKind.wrap_u32]; omega)
  have e4 : Hid (IntKind.u32.wrap ((r.av : Int) + 4) = ((r.av : Int) + 4) % 4294967296) := hide (by rw [IntKind.wrap_u32])
  have e5 : Hid (IntKind.u32.wrap (((r.av : Int) + 4) % 4294967296 + (2 * ((sl : Nat) : Int))) = (aH : Int)) := hide (by rw [IntKind.wrap_u32]; exact e2)
  generalize numF f (plM (avC r)) 2 = cnt at *
  generalize avC r = aC at *
  have hal : ahN r cnt < 65536 := Nat.mod_lt _ (by decide)
  generalize ahN r cnt = ah at *
  have t1 : ((ah : Int) == 0) = false := by simp; omega
  have t2 : decide (r.sz < (ah : Int)) = false := by simp; omega
  have t3 : decide (r.sz ≤ (hd : Int)) = true := by simp; omega
  have t3b : r.sz ≤ (hd : Int) := by omega
  clear hk hr0 hc al1 al2 al3 h0 h1 h3 e2
  go_enter Tryd.func28, Tryd.ntmps28
  go_wp2_with (first | ((with_reducible refine bx_rp w.heap.size r ?_ ?_ ?_); exact rfl; exact rfl; intro W hr hb hz) | ((with_reducible refine al_rp (w.heap.size + 1) ?_ ?_); exact hz.out; intro W hq hb' hz'; replace hr := hr.bl (hz.out ▸ hb'); replace hb := hb.trans (hb'.mono (by omega)); replace hz := hz'; have hM := h.bl hb; have hW := Went.of (O := O) hb hB0; have hA := hA0.bl hb; have hF := h.far 2; have hS : w.heap.size + 2 ≤ W.heap.size := Nat.le_of_eq hz.out.symm; have hB : B ≤ W.heap.size := Nat.le_trans hB0 hb.size; clear hb hz hb' hz') | ((with_reducible refine ld_rp w.heap.size _ hr ?_ ?_ ?_); exact rfl; exact rfl) | (go_at_call 42; (with_reducible refine (HC.out _).mono ?_); rintro e W ⟨rfl, hbc⟩; replace hM := hM.bl hbc; replace hW := hW.bl hbc hB; replace hA := hA.bl hbc; replace hB := Nat.le_trans hB hbc.size; replace hS := Nat.le_trans hS hbc.size; replace hr := hr.bl hbc; replace hq := hq.bl hbc) | ((with_reducible refine ld_rav w.heap.size _ _ hr ?_ ?_ ?_); exact rfl; exact rfl) | ((with_reducible refine ld_rla w.heap.size _ _ hr ?_ ?_ ?_); exact rfl; exact rfl) | (go_at_call 43; (with_reducible refine (HL1.out _ _ hM hA).mono ?_); rintro e W2 ⟨rfl, O2, hM2, hW2⟩; replace hr := hW2.row hr (hF.at 0 (by omega)); replace hq := hW2.row hq (hF.at 1 (by omega)); replace hA := hA.wentR hG hW2; replace hF := hF.went hW2 hS; replace hS := Nat.le_trans hS hW2.size; replace hW := hW.trans hW2; replace hB := Nat.le_trans hB hW2.size; replace hM := hM2; clear hM2 hW2))
  refine wp_region_held_drew (S := (fun V => RowAt V w.heap.size r.cells 36)) (by kernel_rfl) ?_ (fun hHeld => ?_)
  · exact hr.dr
  replace hM := hM.dr
  replace hW := hW.dr
  replace hA := hA.drR
  replace hS : w.heap.size + 2 ≤ (World.drew _).heap.size := hS
  replace hB : B ≤ (World.drew _).heap.size := hB
  replace hq := hq.dr
  generalize World.drew _ = V at hHeld hM hW hA hS hB hq ⊢
  clear hr
  refine wpAnyH_take (i := 0) (oi := ?oi49) (v := .pointer (some ⟨b, 0, none⟩)) ?hi49 (by kernel_rfl) (by kernel_rfl) (by kernel_rfl) ?hQ49 ?hy49 (by assumption) ?rest49
  case hi49 => (simp only [List.getElem?_toArray, List.getElem?_cons_zero]; rfl)
  case hQ49 => exact fun _ _ _ h => h
  case hy49 => exact Or.inl ⟨by rfl, by (intro w hSw; (try dsimp only at hSw); go_simp )⟩
  simp only [Act.put, List.setIfInBounds_toArray, List.set_cons_zero, List.set_cons_succ]
  refine wpAnyH_take (i := 1) (oi := ?oi50) (v := .pointer (some ⟨w.heap.size, 2, none⟩)) ?hi50 (by kernel_rfl) (by kernel_rfl) (by kernel_rfl) ?hQ50 ?hy50 (by assumption) ?rest50
  case hi50 => (simp only [List.getElem?_toArray, List.getElem?_cons_zero, List.getElem?_cons_succ]; rfl)
  case hQ50 => exact fun _ _ _ h => h
  case hy50 => exact Or.inl ⟨by rfl, by (intro w hSw; (try dsimp only at hSw); go_simp )⟩
  simp only [Act.put, List.setIfInBounds_toArray, List.set_cons_zero, List.set_cons_succ]
  refine wpAnyH_take (i := 2) (oi := ?oi51) (v := .int .u32 (r.av : Nat)) ?hi51 (by kernel_rfl) (by kernel_rfl) (by kernel_rfl) ?hQ51 ?hy51 (by assumption) ?rest51
  case hi51 => (simp only [List.getElem?_toArray, List.getElem?_cons_zero, List.getElem?_cons_succ]; rfl)
  case hQ51 => exact fun _ _ _ h => h
  case hy51 => exact y_rav w.heap.size r _ (fun V hV => hV) rfl
  simp only [Act.put, List.setIfInBounds_toArray, List.set_cons_zero, List.set_cons_succ]
  refine wpAnyH_take (i := 3) (oi := ?oi52) (v := .int .u32 (((r.av : Int) + 4) % 4294967296)) ?hi52 (by kernel_rfl) (by kernel_rfl) (by kernel_rfl) ?hQ52 ?hy52 (by assumption) ?rest52
  case hi52 => (simp only [List.getElem?_toArray, List.getElem?_cons_zero, List.getElem?_cons_succ]; rfl)
  case hQ52 => exact fun _ _ _ h => h
  case hy52 => exact Or.inl ⟨by rfl, by (intro w hSw; (try dsimp only at hSw); go_simp ; exact e4.out)⟩
  simp only [Act.put, List.setIfInBounds_toArray, List.set_cons_zero, List.set_cons_succ]
  refine wpAnyH_take (i := 4) (oi := ?oi53) (v := .agg r.cells) ?hi53 (by kernel_rfl) (by kernel_rfl) (by kernel_rfl) ?hQ53 ?hy53 (by assumption) ?rest53
  case hi53 => (simp only [List.getElem?_toArray, List.getElem?_cons_zero, List.getElem?_cons_succ]; rfl)
  case hQ53 => exact fun _ _ _ h => h
  case hy53 => exact y_rp w.heap.size r (fun V hV => hV) rfl rfl
  simp only [Act.put, List.setIfInBounds_toArray, List.set_cons_zero, List.set_cons_succ]
  refine wpAnyH_take (i := 5) (oi := ?oi54) (v := .pointer (some ⟨w.heap.size, 4, none⟩)) ?hi54 (by kernel_rfl) (by kernel_rfl) (by kernel_rfl) ?hQ54 ?hy54 (by assumption) ?rest54
  case hi54 => (simp only [List.getElem?_toArray, List.getElem?_cons_zero, List.getElem?_cons_succ]; rfl)
  case hQ54 => exact fun _ _ _ h => h
  case hy54 => exact Or.inl ⟨by rfl, by (intro w hSw; (try dsimp only at hSw); go_simp )⟩
  simp only [Act.put, List.setIfInBounds_toArray, List.set_cons_zero, List.set_cons_succ]
  refine wpAnyH_take (i := 6) (oi := ?oi55) (v := .int .u16 (r.la : Nat)) ?hi55 (by kernel_rfl) (by kernel_rfl) (by kernel_rfl) ?hQ55 ?hy55 (by assumption) ?rest55
  case hi55 => (simp only [List.getElem?_toArray, List.getElem?_cons_zero, List.getElem?_cons_succ]; rfl)
  case hQ55 => exact fun _ _ _ h => h
  case hy55 => exact y_rla w.heap.size r _ (fun V hV => hV) rfl
  simp only [Act.put, List.setIfInBounds_toArray, List.set_cons_zero, List.set_cons_succ]
  refine wpAnyH_ready (rs := [7]) (by kernel_rfl) (by simp) ?_
  refine AllReadyH.cons (o := ?oi56) ?hi56 (fun K hK => ?_) AllReadyH.nil
  case hi56 => (simp only [List.getElem?_toArray, List.getElem?_cons_zero, List.getElem?_cons_succ]; rfl)
  rw [if_pos (by rfl)]
  go_simp
  (with_reducible refine (HS.out _).mono ?_)
  rintro e V2 ⟨rfl, hbc⟩
  have hH2 := hide (hHeld.bl hbc)
  replace hM := hM.bl hbc
  replace hW := hW.bl hbc hB
  replace hA := hA.bl hbc
  replace hB := Nat.le_trans hB hbc.size
  replace hS := Nat.le_trans hS hbc.size
  replace hq := hq.bl hbc
  clear hHeld hbc
  go_simp
  refine hK.out _ _ ?_ (fun hHeld => ?_)
  · exact hH2.out
  clear hK K
  clear hH2
  refine wpAnyH_take (i := 8) (oi := ?oi57) (v := .int .u32 (2 * (sl : Int))) ?hi57 (by kernel_rfl) (by kernel_rfl) (by kernel_rfl) ?hQ57 ?hy57 (by assumption) ?rest57
  case hi57 => (simp only [List.getElem?_toArray, List.getElem?_cons_zero, List.getElem?_cons_succ]; rfl)
  case hQ57 => exact fun _ _ _ h => h
  case hy57 => exact Or.inl ⟨by rfl, by (intro w hSw; (try dsimp only at hSw); go_simp ; exact e3.out)⟩
  simp only [Act.put, List.setIfInBounds_toArray, List.set_cons_zero, List.set_cons_succ]
  refine wpAnyH_take (i := 9) (oi := ?oi58) (v := .int .u32 (aH : Nat)) ?hi58 (by kernel_rfl) (by kernel_rfl) (by kernel_rfl) ?hQ58 ?hy58 (by assumption) ?rest58
  case hi58 => (simp only [List.getElem?_toArray, List.getElem?_cons_zero, List.getElem?_cons_succ]; rfl)
  case hQ58 => exact fun _ _ _ h => h
  case hy58 => exact Or.inl ⟨by rfl, by (intro w hSw; (try dsimp only at hSw); go_simp ; exact e5.out)⟩
  simp only [Act.put, List.setIfInBounds_toArray, List.set_cons_zero, List.set_cons_succ]
  refine wpAnyH_ready (rs := [10]) (by kernel_rfl) (by simp) ?_
  refine AllReadyH.cons (o := ?oi59) ?hi59 (fun K hK => ?_) AllReadyH.nil
  case hi59 => (simp only [List.getElem?_toArray, List.getElem?_cons_zero, List.getElem?_cons_succ]; rfl)
  rw [if_pos (by rfl)]
  go_simp
  (with_reducible refine (HL2.out _ _ hM hA).mono ?_)
  rintro e V2 ⟨rfl, O2, hM2, hW2⟩
  have hH2 := hide (hW2.row hHeld (hF.at 0 (by omega)))
  replace hq := hW2.row hq (hF.at 1 (by omega))
  replace hA := hA.wentR hG hW2
  replace hF := hF.went hW2 hS
  replace hS := Nat.le_trans hS hW2.size
  replace hW := hW.trans hW2
  replace hB := Nat.le_trans hB hW2.size
  replace hM := hM2
  clear hM2 hW2 hHeld
  go_simp
  refine hK.out _ _ ?_ (fun hHeld => ?_)
  · exact hH2.out
  clear hK K
  clear hH2
  refine wpAnyH_take (i := 11) (oi := ?oi60) (v := .tuple #[.int .u32 (hd : Nat), .nilIface]) ?hi60 (by kernel_rfl) (by kernel_rfl) (by kernel_rfl) ?hQ60 ?hy60 (by assumption) ?rest60
  case hi60 => (simp only [List.getElem?_toArray, List.getElem?_cons_zero, List.getElem?_cons_succ]; rfl)
  case hQ60 => exact fun _ _ _ h => h
  case hy60 => exact Or.inl ⟨by rfl, by (intro w hSw; (try dsimp only at hSw); go_simp )⟩
  simp only [Act.put, List.setIfInBounds_toArray, List.set_cons_zero, List.set_cons_succ]
  refine wpAnyH_take (i := 12) (oi := ?oi61) (v := .int .u32 (hd : Nat)) ?hi61 (by kernel_rfl) (by kernel_rfl) (by kernel_rfl) ?hQ61 ?hy61 (by assumption) ?rest61
  case hi61 => (simp only [List.getElem?_toArray, List.getElem?_cons_zero, List.getElem?_cons_succ]; rfl)
  case hQ61 => exact fun _ _ _ h => h
  case hy61 => exact Or.inl ⟨by rfl, by (intro w hSw; (try dsimp only at hSw); go_simp )⟩
  simp only [Act.put, List.setIfInBounds_toArray, List.set_cons_zero, List.set_cons_succ]
  refine wpAnyH_take (i := 13) (oi := ?oi62) (v := .nilIface) ?hi62 (by kernel_rfl) (by kernel_rfl) (by kernel_rfl) ?hQ62 ?hy62 (by assumption) ?rest62
  case hi62 => (simp only [List.getElem?_toArray, List.getElem?_cons_zero, List.getElem?_cons_succ]; rfl)
  case hQ62 => exact fun _ _ _ h => h
  case hy62 => exact Or.inl ⟨by rfl, by (intro w hSw; (try dsimp only at hSw); go_simp )⟩
  simp only [Act.put, List.setIfInBounds_toArray, List.set_cons_zero, List.set_cons_succ]
  refine wpAnyH_take (i := 14) (oi := ?oi63) (v := .int .u32 (hd : Nat)) ?hi63 (by kernel_rfl) (by kernel_rfl) (by kernel_rfl) ?hQ63 ?hy63 (by assumption) ?rest63
  case hi63 => (simp only [List.getElem?_toArray, List.getElem?_cons_zero, List.getElem?_cons_succ]; rfl)
  case hQ63 => exact fun _ _ _ h => h
  case hy63 => exact Or.inl ⟨by rfl, by (intro w hSw; (try dsimp only at hSw); go_simp )⟩
  simp only [Act.put, List.setIfInBounds_toArray, List.set_cons_zero, List.set_cons_succ]
  refine wpAnyH_take (i := 15) (oi := ?oi64) (v := .nilIface) ?hi64 (by kernel_rfl) (by kernel_rfl) (by kernel_rfl) ?hQ64 ?hy64 (by assumption) ?rest64
  case hi64 => (simp only [List.getElem?_toArray, List.getElem?_cons_zero, List.getElem?_cons_succ]; rfl)
  case hQ64 => exact fun _ _ _ h => h
  case hy64 => exact Or.inl ⟨by rfl, by (intro w hSw; (try dsimp only at hSw); go_simp )⟩
  simp only [Act.put, List.setIfInBounds_toArray, List.set_cons_zero, List.set_cons_succ]
  refine wpAnyH_done (by kernel_rfl) ?_ _
  have hr := hHeld
  clear hHeld
  go_wp2_with (first | ((with_reducible refine ld_rsz w.heap.size _ _ hr ?_ ?_ ?_); exact rfl; exact rfl) | ((with_reducible refine ld_rla w.heap.size _ _ hr ?_ ?_ ?_); exact rfl; exact rfl) | ((with_reducible refine ld_rp w.heap.size _ hr ?_ ?_ ?_); exact rfl; exact rfl) | ((with_reducible refine st_rp (w.heap.size + 1) _ zeroRg hq ?_ ?_ ?_); exact rfl; exact rfl; intro W hnew ho; replace hr := hr.only ho (by omega); replace hM := hM.only ho (hF.at 1 (by omega)); replace hA := hA.onlyR ho (by omega); replace hW := hW.only ho (by omega) (by omega); replace hS := (show w.heap.size + 2 ≤ W.heap.size by rw [ho.size]; exact hS); replace hB := (show B ≤ W.heap.size by rw [ho.size]; exact hB); replace hq := hnew; clear hnew ho))
  refine bodyPost_ret (results_cell_uuu Tryd.results28 _ _ (w.heap.size + 1) _ _ _ rfl hq Tryd.underlying36 rfl size_rp) rfl ?_
  exact ⟨rfl, _, hM, hW⟩
/-- What Next answers: the ring, the head, whether there is one, the error's number. -/
def nextV (p : Nat) (f : Nat → Nat) (r : Rg) : Rg × Nat × Bool × Nat :=
  if chkR r = true then
    (if plB p (avC r) 2 = true then
      (if ahN r (numF f (plM (avC r)) 2) = 0 then (zeroRg, 0, false, 0)
       else if plB p (avH r) 2 = true then
         (if (ahN r (numF f (plM (avC r)) 2) : Int) ≤ r.sz ∧ (numF f (plM (avH r)) 2 : Int) < r.sz then (takenR r, numF f (plM (avH r)) 2, true, 0) else (zeroRg, 0, false, 22))
       else (zeroRg, 0, false, 22))
     else (zeroRg, 0, false, 22))
  else (zeroRg, 0, false, 1)
theorem rnext_any (r : Rg) (hr0 : r.Ok) {w : World} {B b p c : Nat} {f : Nat → Nat} {O : Nat → Prop} (h : RamB w B b p f c O) (hA : AreasAt w) (hG : 0 < B) :
    Calls Tryd.prog 28 #[.agg r.cells, .pointer (some ⟨b, 0, none⟩)] w fun e w' => e = .returned (.tuple #[.agg (nextV p f r).1.cells, .int .i64 ((nextV p f r).2.1 : Nat), .bool (nextV p f r).2.2.1, errR (nextV p f r).2.2.2]) ∧ ∃ O', RamB w' B b p f c O' ∧ Went B O O' w w' := by
  unfold nextV
  by_cases hc : chkR r = true
  · rw [if_pos hc]
    by_cases h0 : plB p (avC r) 2 = true
    · rw [if_pos h0]
      by_cases h1 : ahN r (numF f (plM (avC r)) 2) = 0
      · rw [if_pos h1]; exact next_none r hr0 hc h hA hG h0 h1
      rw [if_neg h1]
      by_cases h3 : plB p (avH r) 2 = true
      · rw [if_pos h3]
        by_cases h2 : (ahN r (numF f (plM (avC r)) 2) : Int) ≤ r.sz
        · by_cases h4 : (numF f (plM (avH r)) 2 : Int) < r.sz
          · rw [if_pos ⟨h2, h4⟩]; exact next_took r hr0 hc h hA hG h0 h1 h2 h3 h4
          · rw [if_neg (fun e => h4 e.2)]; exact next_odd r hr0 hc h hA hG h0 h1 h2 h3 (by omega)
        · rw [if_neg (fun e => h2 e.1)]; exact next_many r hr0 hc h hA hG h0 h1 (by omega) h3
      · rw [if_neg h3]; exact next_far r hr0 hc h hA hG h0 h1 (by simpa using h3)
    · rw [if_neg h0]; exact next_out r hr0 hc h hA hG (by simpa using h0)
  · rw [if_neg hc]
    refine (next_bad r hr0 (by simpa using hc) b w).mono ?_
    rintro e w' ⟨rfl, hb⟩
    exact ⟨rfl, O, h.bl hb, Went.of hb h.base⟩
end Go.Proofs.YtbggkoahofnnjaaDoor
