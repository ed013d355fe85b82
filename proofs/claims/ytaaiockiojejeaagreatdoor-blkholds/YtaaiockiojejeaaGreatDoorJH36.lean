/-
  What blk's look answers.
-/
import Derived.Test.YtaaiockiojejeaaGreatDoorJH11
import Derived.Test.YtaaiockiojejeaaGreatDoorJH29
import Derived.Test.YtaaiockiojejeaaGreatDoorJH30
import Derived.Test.YtaaiockiojejeaaGreatDoorJH28
namespace Go.Proofs.YtaaiockiojejeaaGreatDoor
open Go.RowKit
set_option linter.unusedVariables false
set_option linter.unusedSimpArgs false

theorem walk_all (r : Rg) (hr0 : r.Ok) (hc : chkR r = true) (hd : Int) {w : World} {B b p c : Nat} {f : Nat → Nat} {O : Nat → Prop} (h : RamB w B b p f c O) (hA : AreasAt w) (hG : 2 < B) : Calls Tryz.prog 69 #[.agg r.cells, .pointer (some ⟨b, 0, none⟩), .int .i64 hd] w fun e w' => ∃ O', RamB w' B b p f c O' ∧ Went B O O' w w' ∧ ((walkV p f r hd = none ∧ e = .returned (.tuple #[.slice none 0 0, .iface 129 (.int .i64 22)])) ∨ ∃ ps v, walkV p f r hd = some ps ∧ e = .returned (.tuple #[v, .nilIface]) ∧ w'.ownsRow w.heap.size 103 3 v ps.length (segL ps) ∧ ∀ g, v.ownBlock = some g → ¬ O' g) := by
  unfold walkV
  cases hf : followV p f r r.sz.toNat hd with
  | none =>
    refine (walk_nf r hr0 hc hd h hA hG hf).mono ?_
    rintro e w' ⟨rfl, O', h1, h2⟩
    exact ⟨O', h1, h2, .inl ⟨rfl, rfl⟩⟩
  | some l =>
    cases ho : oddL p 0 false l with
    | true =>
      refine (walk_odd r hr0 hc hd h hA hG l hf ho).mono ?_
      rintro e w' ⟨rfl, O', h1, h2⟩
      exact ⟨O', h1, h2, .inl ⟨by simp [ho], rfl⟩⟩
    | false =>
      refine (walk_ok r hr0 hc hd h hA hG l hf ho).mono ?_
      rintro e w' ⟨O', v, rfl, h1, h2, h3, h4⟩
      exact ⟨O', h1, h2, .inr ⟨l.map sgOf, v, by simp [ho], rfl, by rw [List.length_map]; exact h3, h4⟩⟩
set_option maxHeartbeats 1000000 in
theorem look_nw (r : Rg) (hr0 : r.Ok) (hc : chkR r = true) (hd : Int) {w : World} {B b p c : Nat} {f : Nat → Nat} {O : Nat → Prop} (h : RamB w B b p f c O) (hA : AreasAt w) (hG : 2 < B) (hk : walkV p f r hd = none) : Calls Tryz.prog 33 #[.agg r.cells, .pointer (some ⟨b, 0, none⟩), .int .i64 hd] w fun e w' => e = .returned (.tuple #[.agg (zeroCh.c nilS), .iface 129 (.int .i64 22)]) ∧ ∃ O', RamB w' B b p f c O' ∧ Went B O O' w w' := by
  have HWk : Hid (∀ W O1, RamB W B b p f c O1 → AreasAt W → Calls Tryz.prog 69 #[.agg r.cells, .pointer (some ⟨b, 0, none⟩), .int .i64 hd] W fun e w' => e = .returned (.tuple #[.slice none 0 0, .iface 129 (.int .i64 22)]) ∧ ∃ O', RamB w' B b p f c O' ∧ Went B O1 O' W w') := hide (fun W O1 hM hA => (walk_all r hr0 hc hd hM hA hG).mono (by
    rintro e w' ⟨O', h1, h2, ⟨_, rfl⟩ | ⟨ps, v, h3, _⟩⟩
    · exact ⟨rfl, O', h1, h2⟩
    · rw [hk] at h3; cases h3))
  clear hk hc hr0
  have hB0 := h.base
  have hGw : 2 < w.heap.size := Nat.lt_of_lt_of_le hG hB0
  have hA0 := hA
  clear hA
  go_enter Tryz.func33, Tryz.ntmps33
  go_wp2_with (first | ((with_reducible refine bx_rp w.heap.size r ?_ ?_ ?_); exact rfl; exact rfl; intro W hr hb hz) | ((with_reducible refine al_ch (w.heap.size + 1) ?_ ?_); exact hz.out; intro W hq hb' hz'; replace hr := hr.bl (hz.out ▸ hb'); replace hb := hb.trans (hb'.mono (by omega)); replace hz := hz'; have hM := h.bl hb; have hW := Went.of (O := O) hb hB0; have hA := hA0.bl hb; have hF := h.far 2; have hS : w.heap.size + 2 ≤ W.heap.size := Nat.le_of_eq hz.out.symm; have hB : B ≤ W.heap.size := Nat.le_trans hB0 hb.size; clear hb hz hb' hz') | ((with_reducible refine ld_rp w.heap.size _ hr ?_ ?_ ?_); exact rfl; exact rfl) | (go_at_call 69; (with_reducible refine (HWk.out _ _ hM hA).mono ?_); rintro e W2 ⟨rfl, O2, hM2, hW2⟩; replace hr := hW2.row hr (hF.at 0 (by omega)); replace hq := hW2.row hq (hF.at 1 (by omega)); replace hA := hA.wentR hG hW2; replace hF := hF.went hW2 hS; replace hS := Nat.le_trans hS hW2.size; replace hW := hW.trans hW2; replace hB := Nat.le_trans hB hW2.size; replace hM := hM2; clear hM2 hW2) | ((with_reducible refine st_ch (w.heap.size + 1) _ _ zeroCh nilS rfl hq ?_ ?_ ?_); exact rfl; exact rfl; intro W hnew ho; replace hr := hr.only ho (by omega); replace hM := hM.only ho (hF.at 1 (by omega)); replace hA := hA.onlyR ho (by omega); replace hW := hW.only ho (by omega) (by omega); replace hS := (show w.heap.size + 2 ≤ W.heap.size by rw [ho.size]; exact hS); replace hB := (show B ≤ W.heap.size by rw [ho.size]; exact hB); replace hq := hnew; clear hnew ho))
  refine bodyPost_ret (results_cell_u Tryz.results33 _ _ (w.heap.size + 1) _ _ _ rfl hq Tryz.underlying110 rfl size_ch) rfl ?_
  exact ⟨rfl, _, hM, hW⟩
theorem gathF_small {f : Nat → Nat} (hf : ∀ x, f x < 256) (l : List Sg) : ∀ y ∈ gathF f l, y < 256 := by
  intro y hy
  obtain ⟨s, _, hs⟩ := List.mem_flatMap.1 hy
  obtain ⟨j, _, rfl⟩ := List.mem_map.1 hs
  exact hf _
set_option maxHeartbeats 2000000 in
theorem look_sh (r : Rg) (hr0 : r.Ok) (hc : chkR r = true) (hd : Int) {w : World} {B b p c : Nat} {f : Nat → Nat} {O : Nat → Prop} (h : RamB w B b p f c O) (hA : AreasAt w) (hG : 2 < B) (ps : List Sg) (hk : walkV p f r hd = some ps) (hs : ¬ (16 ≤ (hedF f ps).length ∧ 1 ≤ roomV true 0 ps)) : Calls Tryz.prog 33 #[.agg r.cells, .pointer (some ⟨b, 0, none⟩), .int .i64 hd] w fun e w' => e = .returned (.tuple #[.agg (zeroCh.c nilS), .iface 129 (.int .i64 22)]) ∧ ∃ O', RamB w' B b p f c O' ∧ Went B O O' w w' := by
  have hP := walk_parts h.small hc hk
  have HWk : Hid (∀ W O1, RamB W B b p f c O1 → AreasAt W → Calls Tryz.prog 69 #[.agg r.cells, .pointer (some ⟨b, 0, none⟩), .int .i64 hd] W fun e w' => ∃ v, e = .returned (.tuple #[v, .nilIface]) ∧ ∃ O', RamB w' B b p f c O' ∧ Went B O1 O' W w' ∧ w'.ownsRow W.heap.size 103 3 v ps.length (segL ps) ∧ ∀ g, v.ownBlock = some g → ¬ O' g) := hide (fun W O1 hM hA => (walk_all r hr0 hc hd hM hA hG).mono (by
    rintro e w' ⟨O', h1, h2, ⟨h3, _⟩ | ⟨ps', v, h3, rfl, h4, h5⟩⟩
    · rw [hk] at h3; cases h3
    · rw [hk] at h3; cases h3; exact ⟨v, rfl, O', h1, h2, h4, h5⟩))
  have hfo := firL_ok ps 16 hP.ok (by decide) (by decide)
  have HFi : Hid (∀ W v Bl, W.ownsRow Bl 103 3 v ps.length (segL ps) → Calls Tryz.prog 71 #[v, .int .i64 16] W fun e w' => ∃ v', e = .returned v' ∧ w'.ownsRow W.heap.size 103 3 v' ps.length (segL (firL 16 ps)) ∧ Below W.heap.size W w') := hide (fun W v Bl hL => first_any ps (by have := hP.len; omega) hP.pos hP.ok hL)
  have HGa : Hid (∀ W O1 v Bl, RamB W B b p f c O1 → AreasAt W → W.ownsRow Bl 103 3 v ps.length (segL (firL 16 ps)) → Calls Tryz.prog 70 #[.pointer (some ⟨b, 0, none⟩), v] W fun e w' => ∃ v', e = .returned (.tuple #[v', .nilIface]) ∧ ∃ O', RamB w' B b p f c O' ∧ Went B O1 O' W w' ∧ w'.ownsRow W.heap.size 5 1 v' (hedF f ps).length (byteV (hedF f ps)) ∧ ∀ g, v'.ownBlock = some g → ¬ O' g) := hide (fun W O1 v Bl hM hA hL => (gath_ok (firL 16 ps) (by rw [firL_len]; have := hP.len; omega) (fun s hs => (hfo s hs).1) hM hA hG (by rw [firL_len]; exact hL) (parts_inS false _ _ (firs_inS ps 16 (by decide) (fun s hs => ⟨hP.ins s hs, (hP.ok s hs).2⟩)))).mono (by
    rintro e w' ⟨O', v', rfl, h1, h2, h3, h4⟩
    exact ⟨v', rfl, O', h1, h2, h3, h4⟩))
  have HRo : Hid (∀ W v Bl, W.ownsRow Bl 103 3 v ps.length (segL ps) → Calls Tryz.prog 72 #[v] W fun e w' => e = .returned (.tuple #[.int .i64 (roomV false 0 ps), .int .i64 (roomV true 0 ps)]) ∧ Below W.heap.size W w') := hide (fun W v Bl hL => room_any ps (by have := hP.len; omega) (fun s hs => (hP.ok s hs).1) hL)
  have hsm : ∀ y ∈ hedF f ps, y < 256 := gathF_small h.small _
  obtain ⟨rr0, rr1⟩ := roomV_in false ps 0 (by decide) (by decide)
  obtain ⟨rw0, rw1⟩ := roomV_in true ps 0 (by decide) (by decide)
  have hpl := hP.len
  obtain ⟨nb, hnb⟩ : ∃ n, (hedF f ps).length = n := ⟨_, rfl⟩
  rw [hnb] at HGa
  rw [hnb] at hs
  generalize roomV true 0 ps = wt at *
  generalize roomV false 0 ps = rt at *
  generalize ps.length = np at *
  by_cases h16 : nb < 16
  · have t0 : decide ((nb : Int) < 16) = true := by simp; omega
    clear hs hP hk hc hr0 hfo hsm hnb
    have hB0 := h.base
    have hGw : 2 < w.heap.size := Nat.lt_of_lt_of_le hG hB0
    have hA0 := hA
    clear hA
    go_enter Tryz.func33, Tryz.ntmps33
    go_wp2_with (first | ((with_reducible refine bx_rp w.heap.size r ?_ ?_ ?_); exact rfl; exact rfl; intro W hr hb hz) | ((with_reducible refine al_ch (w.heap.size + 1) ?_ ?_); exact hz.out; intro W hq hb' hz'; replace hr := hr.bl (hz.out ▸ hb'); replace hb := hb.trans (hb'.mono (by omega)); replace hz := hz'; have hM := h.bl hb; have hW := Went.of (O := O) hb hB0; have hA := hA0.bl hb; have hF := h.far 2; have hS : w.heap.size + 2 ≤ W.heap.size := Nat.le_of_eq hz.out.symm; have hB : B ≤ W.heap.size := Nat.le_trans hB0 hb.size; clear hb hz hb' hz') | ((with_reducible refine ld_rp w.heap.size _ hr ?_ ?_ ?_); exact rfl; exact rfl) | (go_at_call 69; (with_reducible refine (HWk.out _ _ hM hA).mono ?_); rintro e W2 ⟨v1, rfl, O2, hM2, hW2, hL, hLn⟩; replace hL := own_lower2 hL hS; obtain ⟨av, ac, rfl, hav1, hav2⟩ := own_form hL; replace hr := hW2.row hr (hF.at 0 (by omega)); replace hq := hW2.row hq (hF.at 1 (by omega)); replace hA := hA.wentR hG hW2; replace hF := hF.went hW2 hS; replace hS := Nat.le_trans hS hW2.size; replace hW := hW.trans hW2; replace hB := Nat.le_trans hB hW2.size; replace hM := hM2; clear hM2 hW2) | (go_at_call 71; (with_reducible refine (HFi.out _ _ _ hL).mono ?_); rintro e W3 ⟨v2, rfl, hL2, hbc⟩; replace hL := own_bel hL hbc; replace hM := hM.bl hbc; replace hW := hW.bl hbc hB; replace hA := hA.bl hbc; replace hB := Nat.le_trans hB hbc.size; replace hS := Nat.le_trans hS hbc.size; replace hr := hr.bl hbc; replace hq := hq.bl hbc; clear hbc) | (go_at_call 70; (with_reducible refine (HGa.out _ _ _ _ hM hA hL2).mono ?_); rintro e W2 ⟨v3, rfl, O2, hM2, hW2, hY, hYn⟩; obtain ⟨bv, bc, rfl, hbv1, hbv2⟩ := own_form hY; (have hLn2 := fun g e => hW2.no (hL.lt g e).2 (hLn g e)); replace hL := own_went hL hW2 hLn; (replace hLn := hLn2); clear hLn2 hL2; replace hr := hW2.row hr (hF.at 0 (by omega)); replace hq := hW2.row hq (hF.at 1 (by omega)); replace hA := hA.wentR hG hW2; replace hF := hF.went hW2 hS; replace hS := Nat.le_trans hS hW2.size; replace hW := hW.trans hW2; replace hB := Nat.le_trans hB hW2.size; replace hM := hM2; clear hM2 hW2) | (go_at_call 72; (with_reducible refine (HRo.out _ _ _ hL).mono ?_); rintro e W ⟨rfl, hbc⟩; replace hL := own_bel hL hbc; replace hY := own_bel hY hbc; replace hM := hM.bl hbc; replace hW := hW.bl hbc hB; replace hA := hA.bl hbc; replace hB := Nat.le_trans hB hbc.size; replace hS := Nat.le_trans hS hbc.size; replace hr := hr.bl hbc; replace hq := hq.bl hbc; clear hbc) | ((with_reducible refine st_ch (w.heap.size + 1) _ _ zeroCh nilS rfl hq ?_ ?_ ?_); exact rfl; exact rfl; intro W hnew ho; replace hr := hr.only ho (by omega); replace hM := hM.only ho (hF.at 1 (by omega)); replace hA := hA.onlyR ho (by omega); replace hW := hW.only ho (by omega) (by omega); replace hS := (show w.heap.size + 2 ≤ W.heap.size by rw [ho.size]; exact hS); replace hB := (show B ≤ W.heap.size by rw [ho.size]; exact hB); replace hq := hnew; clear hnew ho))
    refine bodyPost_ret (results_cell_u Tryz.results33 _ _ (w.heap.size + 1) _ _ _ rfl hq Tryz.underlying110 rfl size_ch) rfl ?_
    exact ⟨rfl, _, hM, hW⟩
  · have t0 : decide ((nb : Int) < 16) = false := by simp; omega
    have t1 : decide (wt < 1) = true := by simp; omega
    clear hs hP hk hc hr0 hfo hsm hnb
    have hB0 := h.base
    have hGw : 2 < w.heap.size := Nat.lt_of_lt_of_le hG hB0
    have hA0 := hA
    clear hA
    go_enter Tryz.func33, Tryz.ntmps33
    go_wp2_with (first | ((with_reducible refine bx_rp w.heap.size r ?_ ?_ ?_); exact rfl; exact rfl; intro W hr hb hz) | ((with_reducible refine al_ch (w.heap.size + 1) ?_ ?_); exact hz.out; intro W hq hb' hz'; replace hr := hr.bl (hz.out ▸ hb'); replace hb := hb.trans (hb'.mono (by omega)); replace hz := hz'; have hM := h.bl hb; have hW := Went.of (O := O) hb hB0; have hA := hA0.bl hb; have hF := h.far 2; have hS : w.heap.size + 2 ≤ W.heap.size := Nat.le_of_eq hz.out.symm; have hB : B ≤ W.heap.size := Nat.le_trans hB0 hb.size; clear hb hz hb' hz') | ((with_reducible refine ld_rp w.heap.size _ hr ?_ ?_ ?_); exact rfl; exact rfl) | (go_at_call 69; (with_reducible refine (HWk.out _ _ hM hA).mono ?_); rintro e W2 ⟨v1, rfl, O2, hM2, hW2, hL, hLn⟩; replace hL := own_lower2 hL hS; obtain ⟨av, ac, rfl, hav1, hav2⟩ := own_form hL; replace hr := hW2.row hr (hF.at 0 (by omega)); replace hq := hW2.row hq (hF.at 1 (by omega)); replace hA := hA.wentR hG hW2; replace hF := hF.went hW2 hS; replace hS := Nat.le_trans hS hW2.size; replace hW := hW.trans hW2; replace hB := Nat.le_trans hB hW2.size; replace hM := hM2; clear hM2 hW2) | (go_at_call 71; (with_reducible refine (HFi.out _ _ _ hL).mono ?_); rintro e W3 ⟨v2, rfl, hL2, hbc⟩; replace hL := own_bel hL hbc; replace hM := hM.bl hbc; replace hW := hW.bl hbc hB; replace hA := hA.bl hbc; replace hB := Nat.le_trans hB hbc.size; replace hS := Nat.le_trans hS hbc.size; replace hr := hr.bl hbc; replace hq := hq.bl hbc; clear hbc) | (go_at_call 70; (with_reducible refine (HGa.out _ _ _ _ hM hA hL2).mono ?_); rintro e W2 ⟨v3, rfl, O2, hM2, hW2, hY, hYn⟩; obtain ⟨bv, bc, rfl, hbv1, hbv2⟩ := own_form hY; (have hLn2 := fun g e => hW2.no (hL.lt g e).2 (hLn g e)); replace hL := own_went hL hW2 hLn; (replace hLn := hLn2); clear hLn2 hL2; replace hr := hW2.row hr (hF.at 0 (by omega)); replace hq := hW2.row hq (hF.at 1 (by omega)); replace hA := hA.wentR hG hW2; replace hF := hF.went hW2 hS; replace hS := Nat.le_trans hS hW2.size; replace hW := hW.trans hW2; replace hB := Nat.le_trans hB hW2.size; replace hM := hM2; clear hM2 hW2) | (go_at_call 72; (with_reducible refine (HRo.out _ _ _ hL).mono ?_); rintro e W ⟨rfl, hbc⟩; replace hL := own_bel hL hbc; replace hY := own_bel hY hbc; replace hM := hM.bl hbc; replace hW := hW.bl hbc hB; replace hA := hA.bl hbc; replace hB := Nat.le_trans hB hbc.size; replace hS := Nat.le_trans hS hbc.size; replace hr := hr.bl hbc; replace hq := hq.bl hbc; clear hbc) | ((with_reducible refine st_ch (w.heap.size + 1) _ _ zeroCh nilS rfl hq ?_ ?_ ?_); exact rfl; exact rfl; intro W hnew ho; replace hr := hr.only ho (by omega); replace hM := hM.only ho (hF.at 1 (by omega)); replace hA := hA.onlyR ho (by omega); replace hW := hW.only ho (by omega) (by omega); replace hS := (show w.heap.size + 2 ≤ W.heap.size by rw [ho.size]; exact hS); replace hB := (show B ≤ W.heap.size by rw [ho.size]; exact hB); replace hq := hnew; clear hnew ho))
    refine bodyPost_ret (results_cell_u Tryz.results33 _ _ (w.heap.size + 1) _ _ _ rfl hq Tryz.underlying110 rfl size_ch) rfl ?_
    exact ⟨rfl, _, hM, hW⟩
set_option maxRecDepth 20000 in
set_option maxHeartbeats 4000000 in
theorem look_bad (r : Rg) (hr0 : r.Ok) (hc : chkR r = true) (hd : Int) {w : World} {B b p c : Nat} {f : Nat → Nat} {O : Nat → Prop} (h : RamB w B b p f c O) (hA : AreasAt w) (hG : 2 < B) (ps : List Sg) (hk : walkV p f r hd = some ps) (hs : 16 ≤ (hedF f ps).length ∧ 1 ≤ roomV true 0 ps) (hmv : (chOf f hd ps).mov = true) (hft : (chOf f hd ps).fit = false) : Calls Tryz.prog 33 #[.agg r.cells, .pointer (some ⟨b, 0, none⟩), .int .i64 hd] w fun e w' => e = .returned (.tuple #[.agg (zeroCh.c nilS), .iface 129 (.int .i64 22)]) ∧ ∃ O', RamB w' B b p f c O' ∧ Went B O O' w w' := by
  have hP := walk_parts h.small hc hk
  have HWk : Hid (∀ W O1, RamB W B b p f c O1 → AreasAt W → Calls Tryz.prog 69 #[.agg r.cells, .pointer (some ⟨b, 0, none⟩), .int .i64 hd] W fun e w' => ∃ v, e = .returned (.tuple #[v, .nilIface]) ∧ ∃ O', RamB w' B b p f c O' ∧ Went B O1 O' W w' ∧ w'.ownsRow W.heap.size 103 3 v ps.length (segL ps) ∧ ∀ g, v.ownBlock = some g → ¬ O' g) := hide (fun W O1 hM hA => (walk_all r hr0 hc hd hM hA hG).mono (by
    rintro e w' ⟨O', h1, h2, ⟨h3, _⟩ | ⟨ps', v, h3, rfl, h4, h5⟩⟩
    · rw [hk] at h3; cases h3
    · rw [hk] at h3; cases h3; exact ⟨v, rfl, O', h1, h2, h4, h5⟩))
  have hfo := firL_ok ps 16 hP.ok (by decide) (by decide)
  have HFi : Hid (∀ W v Bl, W.ownsRow Bl 103 3 v ps.length (segL ps) → Calls Tryz.prog 71 #[v, .int .i64 16] W fun e w' => ∃ v', e = .returned v' ∧ w'.ownsRow W.heap.size 103 3 v' ps.length (segL (firL 16 ps)) ∧ Below W.heap.size W w') := hide (fun W v Bl hL => first_any ps (by have := hP.len; omega) hP.pos hP.ok hL)
  have HGa : Hid (∀ W O1 v Bl, RamB W B b p f c O1 → AreasAt W → W.ownsRow Bl 103 3 v ps.length (segL (firL 16 ps)) → Calls Tryz.prog 70 #[.pointer (some ⟨b, 0, none⟩), v] W fun e w' => ∃ v', e = .returned (.tuple #[v', .nilIface]) ∧ ∃ O', RamB w' B b p f c O' ∧ Went B O1 O' W w' ∧ w'.ownsRow W.heap.size 5 1 v' (hedF f ps).length (byteV (hedF f ps)) ∧ ∀ g, v'.ownBlock = some g → ¬ O' g) := hide (fun W O1 v Bl hM hA hL => (gath_ok (firL 16 ps) (by rw [firL_len]; have := hP.len; omega) (fun s hs => (hfo s hs).1) hM hA hG (by rw [firL_len]; exact hL) (parts_inS false _ _ (firs_inS ps 16 (by decide) (fun s hs => ⟨hP.ins s hs, (hP.ok s hs).2⟩)))).mono (by
    rintro e w' ⟨O', v', rfl, h1, h2, h3, h4⟩
    exact ⟨v', rfl, O', h1, h2, h3, h4⟩))
  have HRo : Hid (∀ W v Bl, W.ownsRow Bl 103 3 v ps.length (segL ps) → Calls Tryz.prog 72 #[v] W fun e w' => e = .returned (.tuple #[.int .i64 (roomV false 0 ps), .int .i64 (roomV true 0 ps)]) ∧ Below W.heap.size W w') := hide (fun W v Bl hL => room_any ps (by have := hP.len; omega) (fun s hs => (hP.ok s hs).1) hL)
  have hsm : ∀ y ∈ hedF f ps, y < 256 := gathF_small h.small _
  obtain ⟨rr0, rr1⟩ := roomV_in false ps 0 (by decide) (by decide)
  obtain ⟨rw0, rw1⟩ := roomV_in true ps 0 (by decide) (by decide)
  have hpl := hP.len
  obtain ⟨h16, hw1⟩ := hs
  have hlen : (hedF f ps).length = (hedF f ps).length := rfl
  have HN1 : Hid (∀ W gb cap Bl, W.ownsRow Bl 5 1 (.slice (some ⟨gb, 0, none⟩) (hedF f ps).length cap) (hedF f ps).length (byteV (hedF f ps)) → Calls Tryz.prog 73 #[.slice (some ⟨gb, 0, none⟩) 4 cap] W fun e w' => e = .returned (.int .u64 (nmL ((hedF f ps).take 4) : Nat)) ∧ Below W.heap.size W w') := hide (fun W gb cap Bl hY => by
    have hl4 : ((hedF f ps).take 4).length = 4 := by rw [List.length_take]; omega
    have := number_any ((hedF f ps).take 4) (fun y hy => hsm y (List.mem_of_mem_take hy)) (by omega) gb 0 cap W (hY.lt gb rfl).2 (fun j hj => by
      have hc := hY.cells (g := gb) rfl j (.int .u8 (((hedF f ps).take 4)[j] : Nat)) (by rw [byteV, List.getElem?_map, List.getElem?_eq_getElem (by omega), List.getElem_take]; rfl)
      rwa [Addr.add_lit] at hc)
    rwa [hl4] at this)
  have HN2 : Hid (∀ W gb cap Bl c2, W.ownsRow Bl 5 1 (.slice (some ⟨gb, 0, none⟩) (hedF f ps).length cap) (hedF f ps).length (byteV (hedF f ps)) → Calls Tryz.prog 73 #[.slice (some ⟨gb, 8, none⟩) 8 c2] W fun e w' => e = .returned (.int .u64 (nmL (((hedF f ps).drop 8).take 8) : Nat)) ∧ Below W.heap.size W w') := hide (fun W gb cap Bl c2 hY => by
    have hl8 : (((hedF f ps).drop 8).take 8).length = 8 := by rw [List.length_take, List.length_drop]; omega
    have := number_any (((hedF f ps).drop 8).take 8) (fun y hy => hsm y (List.mem_of_mem_drop (List.mem_of_mem_take hy))) (by omega) gb 8 c2 W (hY.lt gb rfl).2 (fun j hj => by
      have hc := hY.cells (g := gb) rfl (8 + j) (.int .u8 ((((hedF f ps).drop 8).take 8)[j] : Nat)) (by rw [byteV, List.getElem?_map, List.getElem?_eq_getElem (by omega), List.getElem_take, List.getElem_drop]; rfl)
      rwa [Addr.add_lit, Nat.zero_add] at hc)
    rwa [hl8] at this)
  have HMv := hide (fun v w => moves_any (chOf f hd ps) v w)
  have HFt := hide (fun v w => fits_any (chOf f hd ps) v rr0 rr1 rw0 rw1 w)
  obtain ⟨nb, hnb⟩ : ∃ n, (hedF f ps).length = n := ⟨_, rfl⟩
  rw [hnb] at HGa
  rw [hnb] at h16 HN1 HN2
  have hcc : chOf f hd ps = ⟨hd, nmL ((hedF f ps).take 4), nmL (((hedF f ps).drop 8).take 8), ps, roomV false 0 ps, roomV true 0 ps⟩ := rfl
  generalize nmL ((hedF f ps).take 4) = k1 at *
  generalize nmL (((hedF f ps).drop 8).take 8) = k2 at *
  generalize byteV (hedF f ps) = yb at *
  obtain ⟨ch, hch⟩ : ∃ x, chOf f hd ps = x := ⟨_, rfl⟩
  have HCH : Hid (∀ v, #[.int .i64 hd, .int .u64 (k1 : Nat), .int .u64 (k2 : Nat), v, .int .i64 (roomV false 0 ps), .int .i64 (roomV true 0 ps)] = ch.c v) := hide (fun v => by rw [← hch, hcc]; rfl)
  rw [hch] at HMv HFt hmv hft
  rw [hmv] at HMv
  rw [hft] at HFt
  generalize roomV true 0 ps = wt at *
  generalize roomV false 0 ps = rt at *
  have hnp : ps.length = ps.length := rfl
  generalize ps.length = np at *
  have t0 : decide ((nb : Int) < 16) = false := by simp; omega
  have t1 : decide (wt < 1) = false := by simp; omega
  clear hP hk hc hr0 hfo hsm hcc hch hnb hmv hft
  have hB0 := h.base
  have hGw : 2 < w.heap.size := Nat.lt_of_lt_of_le hG hB0
  have hA0 := hA
  clear hA
  go_enter Tryz.func33, Tryz.ntmps33
  go_wp2_with (first | ((with_reducible refine bx_rp w.heap.size r ?_ ?_ ?_); exact rfl; exact rfl; intro W hr hb hz) | ((with_reducible refine al_ch (w.heap.size + 1) ?_ ?_); exact hz.out; intro W hq hb' hz'; replace hr := hr.bl (hz.out ▸ hb'); replace hb := hb.trans (hb'.mono (by omega)); replace hz := hz'; have hM := h.bl hb; have hW := Went.of (O := O) hb hB0; have hA := hA0.bl hb; have hF := h.far 2; have hS : w.heap.size + 2 ≤ W.heap.size := Nat.le_of_eq hz.out.symm; have hB : B ≤ W.heap.size := Nat.le_trans hB0 hb.size; clear hb hz hb' hz') | ((with_reducible refine ld_rp w.heap.size _ hr ?_ ?_ ?_); exact rfl; exact rfl) | (go_at_call 69; (with_reducible refine (HWk.out _ _ hM hA).mono ?_); rintro e W2 ⟨v1, rfl, O2, hM2, hW2, hL, hLn⟩; replace hL := own_lower2 hL hS; obtain ⟨av, ac, rfl, hav1, hav2⟩ := own_form hL; replace hr := hW2.row hr (hF.at 0 (by omega)); replace hq := hW2.row hq (hF.at 1 (by omega)); replace hA := hA.wentR hG hW2; replace hF := hF.went hW2 hS; replace hS := Nat.le_trans hS hW2.size; replace hW := hW.trans hW2; replace hB := Nat.le_trans hB hW2.size; replace hM := hM2; clear hM2 hW2) | (go_at_call 71; (with_reducible refine (HFi.out _ _ _ hL).mono ?_); rintro e W3 ⟨v2, rfl, hL2, hbc⟩; replace hL := own_bel hL hbc; replace hM := hM.bl hbc; replace hW := hW.bl hbc hB; replace hA := hA.bl hbc; replace hB := Nat.le_trans hB hbc.size; replace hS := Nat.le_trans hS hbc.size; replace hr := hr.bl hbc; replace hq := hq.bl hbc; clear hbc) | (go_at_call 70; (with_reducible refine (HGa.out _ _ _ _ hM hA hL2).mono ?_); rintro e W2 ⟨v3, rfl, O2, hM2, hW2, hY, hYn⟩; obtain ⟨bv, bc, rfl, hbv1, hbv2⟩ := own_form hY; (have hLn2 := fun g e => hW2.no (hL.lt g e).2 (hLn g e)); replace hL := own_went hL hW2 hLn; (replace hLn := hLn2); clear hLn2 hL2; replace hr := hW2.row hr (hF.at 0 (by omega)); replace hq := hW2.row hq (hF.at 1 (by omega)); replace hA := hA.wentR hG hW2; replace hF := hF.went hW2 hS; replace hS := Nat.le_trans hS hW2.size; replace hW := hW.trans hW2; replace hB := Nat.le_trans hB hW2.size; replace hM := hM2; clear hM2 hW2) | (go_at_call 72; (with_reducible refine (HRo.out _ _ _ hL).mono ?_); rintro e W ⟨rfl, hbc⟩; replace hL := own_bel hL hbc; replace hY := own_bel hY hbc; replace hM := hM.bl hbc; replace hW := hW.bl hbc hB; replace hA := hA.bl hbc; replace hB := Nat.le_trans hB hbc.size; replace hS := Nat.le_trans hS hbc.size; replace hr := hr.bl hbc; replace hq := hq.bl hbc; clear hbc))
  obtain ⟨gb, bc', hve, hb1, hb2, hb3, hb4, hb5⟩ := own_pos hY (show 0 < nb by omega)
  obtain ⟨rfl, rfl⟩ : bv = some ⟨gb, 0, none⟩ ∧ bc = bc' := by injection hve with e1 e2 e3; exact ⟨e1, e3⟩
  have j1 : (4 : Int) ≤ (bc : Int) := by omega
  have j2 : (16 : Int) ≤ (bc : Int) := by omega
  have j3 : ¬ (bc : Int) = 8 := by omega
  have j4 : ¬ bc = 8 := by omega
  clear hve hb3 hb4 hb5
  refine wp_region_held_drew (S := (fun V => True)) (by kernel_rfl) ?_ (fun hHeld => ?_)
  · exact trivial
  replace hM := hM.dr
  replace hW := hW.dr
  replace hA := hA.drR
  replace hS : w.heap.size + 2 ≤ (World.drew _).heap.size := hS
  replace hB : B ≤ (World.drew _).heap.size := hB
  replace hr := hr.dr
  replace hq := hq.dr
  replace hL := own_dr hL
  replace hY := own_dr hY
  generalize World.drew _ = V at hM hW hA hS hB hr hq hL hY ⊢
  refine tkO 0 (.int .i64 hd) (by simp only [gT, gZ]; rfl) (puO (by (intro w hSw; (try dsimp only at hSw); go_simp))) ?_
  simp only [Act.put, pA, pZ, pS]
  refine tkO 1 (.slice (some ⟨gb, 0, none⟩) nb bc) (by simp only [gT, gZ, gS]; rfl) (puO (by (intro w hSw; (try dsimp only at hSw); go_simp))) ?_
  simp only [Act.put, pA, pZ, pS]
  refine tkO 4 (.slice (some ⟨gb, 0, none⟩) nb bc) (by simp only [gT, gZ, gS]; rfl) (puO (by (intro w hSw; (try dsimp only at hSw); go_simp))) ?_
  simp only [Act.put, pA, pZ, pS]
  refine tkO 7 (.slice av np ac) (by simp only [gT, gZ, gS]; rfl) (puO (by (intro w hSw; (try dsimp only at hSw); go_simp))) ?_
  simp only [Act.put, pA, pZ, pS]
  refine tkO 8 (.int .i64 rt) (by simp only [gT, gZ, gS]; rfl) (puO (by (intro w hSw; (try dsimp only at hSw); go_simp))) ?_
  simp only [Act.put, pA, pZ, pS]
  refine tkO 9 (.int .i64 wt) (by simp only [gT, gZ, gS]; rfl) (puO (by (intro w hSw; (try dsimp only at hSw); go_simp))) ?_
  simp only [Act.put, pA, pZ, pS]
  refine tkO 2 (.slice (some ⟨gb, 0, none⟩) 4 bc) (by simp only [gT, gZ, gS]; rfl) (puO (by (intro w hSw; (try dsimp only at hSw); go_simp))) ?_
  simp only [Act.put, pA, pZ, pS]
  refine tkO 5 (.slice (some ⟨gb, 8, none⟩) 8 (bc - 8)) (by simp only [gT, gZ, gS]; rfl) (puO (by (intro w hSw; (try dsimp only at hSw); go_simp))) ?_
  simp only [Act.put, pA, pZ, pS]
  refine wpAnyH_ready (rs := [3, 11]) (by kernel_rfl) (by simp) ?_
  refine AllReadyH.cons (o := ?oi9) ?hi9 (fun K hK => ?b9) (AllReadyH.cons (o := ?oi10) ?hi10 (fun K hK => ?b10) (AllReadyH.nil))
  case hi9 => (simp only [List.getElem?_toArray, List.getElem?_cons_zero, List.getElem?_cons_succ]; rfl)
  case hi10 => (simp only [List.getElem?_toArray, List.getElem?_cons_zero, List.getElem?_cons_succ]; rfl)
  case b9 =>
    rw [if_pos (by rfl)]
    go_simp
    (with_reducible refine (HN1.out _ _ _ _ hY).mono ?_)
    rintro e V2 ⟨rfl, hbc⟩
    have hH2 : Hid (True) := hide trivial
    replace hM := hM.bl hbc
    replace hW := hW.bl hbc hB
    replace hA := hA.bl hbc
    replace hB := Nat.le_trans hB hbc.size
    replace hS := Nat.le_trans hS hbc.size
    replace hr := hr.bl hbc
    replace hq := hq.bl hbc
    replace hL := own_bel hL hbc
    replace hY := own_bel hY hbc
    (try replace hcr := hcr.bl hbc)
    (try replace hNC := Nat.lt_of_lt_of_le hNC hbc.size)
    clear hHeld hbc
    go_simp
    refine hK.out _ _ ?_ (fun hHeld => ?_)
    · exact hH2.out
    clear hK K
    clear hH2
    refine wpAnyH_ready (rs := [6, 11]) (by kernel_rfl) (by simp) ?_
    refine AllReadyH.cons (o := ?oi11) ?hi11 (fun K hK => ?b11) (AllReadyH.cons (o := ?oi12) ?hi12 (fun K hK => ?b12) (AllReadyH.nil))
    case hi11 => (simp only [List.getElem?_toArray, List.getElem?_cons_zero, List.getElem?_cons_succ]; rfl)
    case hi12 => (simp only [List.getElem?_toArray, List.getElem?_cons_zero, List.getElem?_cons_succ]; rfl)
    case b11 =>
      rw [if_pos (by rfl)]
      go_simp
      (with_reducible refine (HN2.out _ _ _ _ _ hY).mono ?_)
      rintro e V3 ⟨rfl, hbc⟩
      have hH2 : Hid (True) := hide trivial
      replace hM := hM.bl hbc
      replace hW := hW.bl hbc hB
      replace hA := hA.bl hbc
      replace hB := Nat.le_trans hB hbc.size
      replace hS := Nat.le_trans hS hbc.size
      replace hr := hr.bl hbc
      replace hq := hq.bl hbc
      replace hL := own_bel hL hbc
      replace hY := own_bel hY hbc
      (try replace hcr := hcr.bl hbc)
      (try replace hNC := Nat.lt_of_lt_of_le hNC hbc.size)
      clear hHeld hbc
      go_simp
      refine hK.out _ _ ?_ (fun hHeld => ?_)
      · exact hH2.out
      clear hK K
      clear hH2
      refine tkO 10 (.agg #[.int .i64 hd, .int .u64 (k1 : Nat), .int .u64 (k2 : Nat), .slice av np ac, .int .i64 rt, .int .i64 wt]) (by simp only [gT, gZ, gS]; rfl) (puO (by (intro w hSw; (try dsimp only at hSw); go_simp))) ?_
      simp only [Act.put, pA, pZ, pS]
      refine skO 11 (by simp only [gT, gZ, gS]; rfl) (fun K hK => ?_)
      obtain ⟨NC, hNC0⟩ : ∃ n, V3.heap.size = n := ⟨_, rfl⟩
      rw [if_pos (by rfl)]
      (with_reducible refine s_alc NC hNC0 (zeroCh.c nilS) zero_ch ?_)
      intro V4 hcr hb' hz4
      have hbc := hNC0 ▸ hb'
      have hCO : Hid (w.heap.size + 2 ≤ NC) := hide (hNC0 ▸ hS)
      have hNC : NC < V4.heap.size := hcr.lt
      have hCF : ∀ (O' : Nat → Prop), (∀ x, O' x → x < NC) → ¬ O' NC := fun O' h k => absurd (h NC k) (Nat.lt_irrefl _)
      have hCN := hCF _ (fun x k => hNC0 ▸ hM.lt x k)
      have hH2 : Hid (True) := hide trivial
      replace hM := hM.bl hbc
      replace hW := hW.bl hbc hB
      replace hA := hA.bl hbc
      replace hB := Nat.le_trans hB hbc.size
      replace hS := Nat.le_trans hS hbc.size
      replace hr := hr.bl hbc
      replace hq := hq.bl hbc
      replace hL := own_bel hL hbc
      replace hY := own_bel hY hbc
      clear hHeld hbc hb' hz4 hNC0 hCF
      refine hK.out _ _ ?_ (fun hHeld => ?_)
      · exact hH2.out
      clear hK K
      clear hH2
      refine skO 12 (by simp only [gT, gZ, gS]; rfl) (fun K hK => ?_)
      rw [if_pos (by rfl)]
      have hco := hCO.out
      (with_reducible refine s_ch NC _ _ ch (.slice av np ac) rfl hcr ?_ ?_ ?_)
      · exact rfl
      · exact congrArg Value.agg (HCH.out _)
      intro V5 hnew ho
      have hH2 : Hid (True) := hide trivial
      replace hr := hr.only ho (by omega)
      replace hq := hq.only ho (by omega)
      replace hL := own_only hL ho (fun e => absurd (own_ty hL e hcr) (by decide))
      replace hM := hM.only ho hCN
      replace hA := hA.onlyR ho (by omega)
      replace hW := hW.only ho (by omega) (by omega)
      replace hS := (show w.heap.size + 2 ≤ V5.heap.size by rw [ho.size]; exact hS)
      replace hB := (show B ≤ V5.heap.size by rw [ho.size]; exact hB)
      replace hcr := hnew
      clear hHeld ho hnew hY hco
      refine hK.out _ _ ?_ (fun hHeld => ?_)
      · exact hH2.out
      clear hK K
      clear hH2
      refine wpAnyH_done (by kernel_rfl) ?_ _
      clear hHeld
      have hCO2 := hCO.out
      go_wp2_with (first | ((with_reducible refine ld_ch NC ch _ hcr ?_ ?_ ?_); exact rfl; exact rfl) | (go_at_call 74; (with_reducible refine (HMv.out _ _).mono ?_); rintro e W ⟨rfl, hbc⟩; replace hM := hM.bl hbc; replace hW := hW.bl hbc hB; replace hA := hA.bl hbc; replace hB := Nat.le_trans hB hbc.size; replace hS := Nat.le_trans hS hbc.size; replace hr := hr.bl hbc; replace hq := hq.bl hbc; replace hcr := hcr.bl hbc; replace hL := own_bel hL hbc; clear hbc) | (go_at_call 75; (with_reducible refine (HFt.out _ _).mono ?_); rintro e W ⟨rfl, hbc⟩; replace hM := hM.bl hbc; replace hW := hW.bl hbc hB; replace hA := hA.bl hbc; replace hB := Nat.le_trans hB hbc.size; replace hS := Nat.le_trans hS hbc.size; replace hr := hr.bl hbc; replace hq := hq.bl hbc; replace hcr := hcr.bl hbc; replace hL := own_bel hL hbc; clear hbc) | ((with_reducible refine st_ch (w.heap.size + 1) _ _ zeroCh nilS rfl hq ?_ ?_ ?_); exact rfl; exact rfl; intro W hnew ho; replace hr := hr.only ho (by omega); replace hM := hM.only ho (hF.at 1 (by omega)); replace hA := hA.onlyR ho (by omega); replace hW := hW.only ho (by omega) (by omega); replace hS := (show w.heap.size + 2 ≤ W.heap.size by rw [ho.size]; exact hS); replace hB := (show B ≤ W.heap.size by rw [ho.size]; exact hB); replace hq := hnew; clear hnew ho))
      refine bodyPost_ret (results_cell_u Tryz.results33 _ _ (w.heap.size + 1) _ _ _ rfl hq Tryz.underlying110 rfl size_ch) rfl ?_
      exact ⟨rfl, _, hM, hW⟩
    case b12 =>
      obtain ⟨NC, hNC0⟩ : ∃ n, V2.heap.size = n := ⟨_, rfl⟩
      rw [if_pos (by rfl)]
      (with_reducible refine s_alc NC hNC0 (zeroCh.c nilS) zero_ch ?_)
      intro V4 hcr hb' hz4
      have hbc := hNC0 ▸ hb'
      have hCO : Hid (w.heap.size + 2 ≤ NC) := hide (hNC0 ▸ hS)
      have hNC : NC < V4.heap.size := hcr.lt
      have hCF : ∀ (O' : Nat → Prop), (∀ x, O' x → x < NC) → ¬ O' NC := fun O' h k => absurd (h NC k) (Nat.lt_irrefl _)
      have hCN := hCF _ (fun x k => hNC0 ▸ hM.lt x k)
      have hH2 : Hid (True) := hide trivial
      replace hM := hM.bl hbc
      replace hW := hW.bl hbc hB
      replace hA := hA.bl hbc
      replace hB := Nat.le_trans hB hbc.size
      replace hS := Nat.le_trans hS hbc.size
      replace hr := hr.bl hbc
      replace hq := hq.bl hbc
      replace hL := own_bel hL hbc
      replace hY := own_bel hY hbc
      clear hHeld hbc hb' hz4 hNC0 hCF
      refine hK.out _ _ ?_ (fun hHeld => ?_)
      · exact hH2.out
      clear hK K
      clear hH2
      refine skO 6 (by simp only [gT, gZ, gS]; rfl) (fun K hK => ?_)
      rw [if_pos (by rfl)]
      go_simp
      (with_reducible refine (HN2.out _ _ _ _ _ hY).mono ?_)
      rintro e V3 ⟨rfl, hbc⟩
      have hH2 : Hid (True) := hide trivial
      replace hM := hM.bl hbc
      replace hW := hW.bl hbc hB
      replace hA := hA.bl hbc
      replace hB := Nat.le_trans hB hbc.size
      replace hS := Nat.le_trans hS hbc.size
      replace hr := hr.bl hbc
      replace hq := hq.bl hbc
      replace hL := own_bel hL hbc
      replace hY := own_bel hY hbc
      (try replace hcr := hcr.bl hbc)
      (try replace hNC := Nat.lt_of_lt_of_le hNC hbc.size)
      clear hHeld hbc
      go_simp
      refine hK.out _ _ ?_ (fun hHeld => ?_)
      · exact hH2.out
      clear hK K
      clear hH2
      refine tkO 10 (.agg #[.int .i64 hd, .int .u64 (k1 : Nat), .int .u64 (k2 : Nat), .slice av np ac, .int .i64 rt, .int .i64 wt]) (by simp only [gT, gZ, gS]; rfl) (puO (by (intro w hSw; (try dsimp only at hSw); go_simp))) ?_
      simp only [Act.put, pA, pZ, pS]
      refine skO 12 (by simp only [gT, gZ, gS]; rfl) (fun K hK => ?_)
      rw [if_pos (by rfl)]
      have hco := hCO.out
      (with_reducible refine s_ch NC _ _ ch (.slice av np ac) rfl hcr ?_ ?_ ?_)
      · exact rfl
      · exact congrArg Value.agg (HCH.out _)
      intro V5 hnew ho
      have hH2 : Hid (True) := hide trivial
      replace hr := hr.only ho (by omega)
      replace hq := hq.only ho (by omega)
      replace hL := own_only hL ho (fun e => absurd (own_ty hL e hcr) (by decide))
      replace hM := hM.only ho hCN
      replace hA := hA.onlyR ho (by omega)
      replace hW := hW.only ho (by omega) (by omega)
      replace hS := (show w.heap.size + 2 ≤ V5.heap.size by rw [ho.size]; exact hS)
      replace hB := (show B ≤ V5.heap.size by rw [ho.size]; exact hB)
      replace hcr := hnew
      clear hHeld ho hnew hY hco
      refine hK.out _ _ ?_ (fun hHeld => ?_)
      · exact hH2.out
      clear hK K
      clear hH2
      refine wpAnyH_done (by kernel_rfl) ?_ _
      clear hHeld
      have hCO2 := hCO.out
      go_wp2_with (first | ((with_reducible refine ld_ch NC ch _ hcr ?_ ?_ ?_); exact rfl; exact rfl) | (go_at_call 74; (with_reducible refine (HMv.out _ _).mono ?_); rintro e W ⟨rfl, hbc⟩; replace hM := hM.bl hbc; replace hW := hW.bl hbc hB; replace hA := hA.bl hbc; replace hB := Nat.le_trans hB hbc.size; replace hS := Nat.le_trans hS hbc.size; replace hr := hr.bl hbc; replace hq := hq.bl hbc; replace hcr := hcr.bl hbc; replace hL := own_bel hL hbc; clear hbc) | (go_at_call 75; (with_reducible refine (HFt.out _ _).mono ?_); rintro e W ⟨rfl, hbc⟩; replace hM := hM.bl hbc; replace hW := hW.bl hbc hB; replace hA := hA.bl hbc; replace hB := Nat.le_trans hB hbc.size; replace hS := Nat.le_trans hS hbc.size; replace hr := hr.bl hbc; replace hq := hq.bl hbc; replace hcr := hcr.bl hbc; replace hL := own_bel hL hbc; clear hbc) | ((with_reducible refine st_ch (w.heap.size + 1) _ _ zeroCh nilS rfl hq ?_ ?_ ?_); exact rfl; exact rfl; intro W hnew ho; replace hr := hr.only ho (by omega); replace hM := hM.only ho (hF.at 1 (by omega)); replace hA := hA.onlyR ho (by omega); replace hW := hW.only ho (by omega) (by omega); replace hS := (show w.heap.size + 2 ≤ W.heap.size by rw [ho.size]; exact hS); replace hB := (show B ≤ W.heap.size by rw [ho.size]; exact hB); replace hq := hnew; clear hnew ho))
      refine bodyPost_ret (results_cell_u Tryz.results33 _ _ (w.heap.size + 1) _ _ _ rfl hq Tryz.underlying110 rfl size_ch) rfl ?_
      exact ⟨rfl, _, hM, hW⟩
  case b10 =>
    obtain ⟨NC, hNC0⟩ : ∃ n, V.heap.size = n := ⟨_, rfl⟩
    rw [if_pos (by rfl)]
    (with_reducible refine s_alc NC hNC0 (zeroCh.c nilS) zero_ch ?_)
    intro V4 hcr hb' hz4
    have hbc := hNC0 ▸ hb'
    have hCO : Hid (w.heap.size + 2 ≤ NC) := hide (hNC0 ▸ hS)
    have hNC : NC < V4.heap.size := hcr.lt
    have hCF : ∀ (O' : Nat → Prop), (∀ x, O' x → x < NC) → ¬ O' NC := fun O' h k => absurd (h NC k) (Nat.lt_irrefl _)
    have hCN := hCF _ (fun x k => hNC0 ▸ hM.lt x k)
    have hH2 : Hid (True) := hide trivial
    replace hM := hM.bl hbc
    replace hW := hW.bl hbc hB
    replace hA := hA.bl hbc
    replace hB := Nat.le_trans hB hbc.size
    replace hS := Nat.le_trans hS hbc.size
    replace hr := hr.bl hbc
    replace hq := hq.bl hbc
    replace hL := own_bel hL hbc
    replace hY := own_bel hY hbc
    clear hHeld hbc hb' hz4 hNC0 hCF
    refine hK.out _ _ ?_ (fun hHeld => ?_)
    · exact hH2.out
    clear hK K
    clear hH2
    refine skO 3 (by simp only [gT, gZ, gS]; rfl) (fun K hK => ?_)
    rw [if_pos (by rfl)]
    go_simp
    (with_reducible refine (HN1.out _ _ _ _ hY).mono ?_)
    rintro e V2 ⟨rfl, hbc⟩
    have hH2 : Hid (True) := hide trivial
    replace hM := hM.bl hbc
    replace hW := hW.bl hbc hB
    replace hA := hA.bl hbc
    replace hB := Nat.le_trans hB hbc.size
    replace hS := Nat.le_trans hS hbc.size
    replace hr := hr.bl hbc
    replace hq := hq.bl hbc
    replace hL := own_bel hL hbc
    replace hY := own_bel hY hbc
    (try replace hcr := hcr.bl hbc)
    (try replace hNC := Nat.lt_of_lt_of_le hNC hbc.size)
    clear hHeld hbc
    go_simp
    refine hK.out _ _ ?_ (fun hHeld => ?_)
    · exact hH2.out
    clear hK K
    clear hH2
    refine skO 6 (by simp only [gT, gZ, gS]; rfl) (fun K hK => ?_)
    rw [if_pos (by rfl)]
    go_simp
    (with_reducible refine (HN2.out _ _ _ _ _ hY).mono ?_)
    rintro e V3 ⟨rfl, hbc⟩
    have hH2 : Hid (True) := hide trivial
    replace hM := hM.bl hbc
    replace hW := hW.bl hbc hB
    replace hA := hA.bl hbc
    replace hB := Nat.le_trans hB hbc.size
    replace hS := Nat.le_trans hS hbc.size
    replace hr := hr.bl hbc
    replace hq := hq.bl hbc
    replace hL := own_bel hL hbc
    replace hY := own_bel hY hbc
    (try replace hcr := hcr.bl hbc)
    (try replace hNC := Nat.lt_of_lt_of_le hNC hbc.size)
    clear hHeld hbc
    go_simp
    refine hK.out _ _ ?_ (fun hHeld => ?_)
    · exact hH2.out
    clear hK K
    clear hH2
    refine tkO 10 (.agg #[.int .i64 hd, .int .u64 (k1 : Nat), .int .u64 (k2 : Nat), .slice av np ac, .int .i64 rt, .int .i64 wt]) (by simp only [gT, gZ, gS]; rfl) (puO (by (intro w hSw; (try dsimp only at hSw); go_simp))) ?_
    simp only [Act.put, pA, pZ, pS]
    refine skO 12 (by simp only [gT, gZ, gS]; rfl) (fun K hK => ?_)
    rw [if_pos (by rfl)]
    have hco := hCO.out
    (with_reducible refine s_ch NC _ _ ch (.slice av np ac) rfl hcr ?_ ?_ ?_)
    · exact rfl
    · exact congrArg Value.agg (HCH.out _)
    intro V5 hnew ho
    have hH2 : Hid (True) := hide trivial
    replace hr := hr.only ho (by omega)
    replace hq := hq.only ho (by omega)
    replace hL := own_only hL ho (fun e => absurd (own_ty hL e hcr) (by decide))
    replace hM := hM.only ho hCN
    replace hA := hA.onlyR ho (by omega)
    replace hW := hW.only ho (by omega) (by omega)
    replace hS := (show w.heap.size + 2 ≤ V5.heap.size by rw [ho.size]; exact hS)
    replace hB := (show B ≤ V5.heap.size by rw [ho.size]; exact hB)
    replace hcr := hnew
    clear hHeld ho hnew hY hco
    refine hK.out _ _ ?_ (fun hHeld => ?_)
    · exact hH2.out
    clear hK K
    clear hH2
    refine wpAnyH_done (by kernel_rfl) ?_ _
    clear hHeld
    have hCO2 := hCO.out
    go_wp2_with (first | ((with_reducible refine ld_ch NC ch _ hcr ?_ ?_ ?_); exact rfl; exact rfl) | (go_at_call 74; (with_reducible refine (HMv.out _ _).mono ?_); rintro e W ⟨rfl, hbc⟩; replace hM := hM.bl hbc; replace hW := hW.bl hbc hB; replace hA := hA.bl hbc; replace hB := Nat.le_trans hB hbc.size; replace hS := Nat.le_trans hS hbc.size; replace hr := hr.bl hbc; replace hq := hq.bl hbc; replace hcr := hcr.bl hbc; replace hL := own_bel hL hbc; clear hbc) | (go_at_call 75; (with_reducible refine (HFt.out _ _).mono ?_); rintro e W ⟨rfl, hbc⟩; replace hM := hM.bl hbc; replace hW := hW.bl hbc hB; replace hA := hA.bl hbc; replace hB := Nat.le_trans hB hbc.size; replace hS := Nat.le_trans hS hbc.size; replace hr := hr.bl hbc; replace hq := hq.bl hbc; replace hcr := hcr.bl hbc; replace hL := own_bel hL hbc; clear hbc) | ((with_reducible refine st_ch (w.heap.size + 1) _ _ zeroCh nilS rfl hq ?_ ?_ ?_); exact rfl; exact rfl; intro W hnew ho; replace hr := hr.only ho (by omega); replace hM := hM.only ho (hF.at 1 (by omega)); replace hA := hA.onlyR ho (by omega); replace hW := hW.only ho (by omega) (by omega); replace hS := (show w.heap.size + 2 ≤ W.heap.size by rw [ho.size]; exact hS); replace hB := (show B ≤ W.heap.size by rw [ho.size]; exact hB); replace hq := hnew; clear hnew ho))
    refine bodyPost_ret (results_cell_u Tryz.results33 _ _ (w.heap.size + 1) _ _ _ rfl hq Tryz.underlying110 rfl size_ch) rfl ?_
    exact ⟨rfl, _, hM, hW⟩
set_option maxRecDepth 20000 in
set_option maxHeartbeats 4000000 in
theorem look_nm (r : Rg) (hr0 : r.Ok) (hc : chkR r = true) (hd : Int) {w : World} {B b p c : Nat} {f : Nat → Nat} {O : Nat → Prop} (h : RamB w B b p f c O) (hA : AreasAt w) (hG : 2 < B) (ps : List Sg) (hk : walkV p f r hd = some ps) (hs : 16 ≤ (hedF f ps).length ∧ 1 ≤ roomV true 0 ps) (hmv : (chOf f hd ps).mov = false) : Calls Tryz.prog 33 #[.agg r.cells, .pointer (some ⟨b, 0, none⟩), .int .i64 hd] w fun e w' => ∃ v, e = .returned (.tuple #[.agg ((chOf f hd ps).c v), .nilIface]) ∧ ∃ O', RamB w' B b p f c O' ∧ Went B O O' w w' ∧ w'.ownsRow w.heap.size 103 3 v ps.length (segL ps) ∧ ∀ g, v.ownBlock = some g → ¬ O' g := by
  have hP := walk_parts h.small hc hk
  have HWk : Hid (∀ W O1, RamB W B b p f c O1 → AreasAt W → Calls Tryz.prog 69 #[.agg r.cells, .pointer (some ⟨b, 0, none⟩), .int .i64 hd] W fun e w' => ∃ v, e = .returned (.tuple #[v, .nilIface]) ∧ ∃ O', RamB w' B b p f c O' ∧ Went B O1 O' W w' ∧ w'.ownsRow W.heap.size 103 3 v ps.length (segL ps) ∧ ∀ g, v.ownBlock = some g → ¬ O' g) := hide (fun W O1 hM hA => (walk_all r hr0 hc hd hM hA hG).mono (by
    rintro e w' ⟨O', h1, h2, ⟨h3, _⟩ | ⟨ps', v, h3, rfl, h4, h5⟩⟩
    · rw [hk] at h3; cases h3
    · rw [hk] at h3; cases h3; exact ⟨v, rfl, O', h1, h2, h4, h5⟩))
  have hfo := firL_ok ps 16 hP.ok (by decide) (by decide)
  have HFi : Hid (∀ W v Bl, W.ownsRow Bl 103 3 v ps.length (segL ps) → Calls Tryz.prog 71 #[v, .int .i64 16] W fun e w' => ∃ v', e = .returned v' ∧ w'.ownsRow W.heap.size 103 3 v' ps.length (segL (firL 16 ps)) ∧ Below W.heap.size W w') := hide (fun W v Bl hL => first_any ps (by have := hP.len; omega) hP.pos hP.ok hL)
  have HGa : Hid (∀ W O1 v Bl, RamB W B b p f c O1 → AreasAt W → W.ownsRow Bl 103 3 v ps.length (segL (firL 16 ps)) → Calls Tryz.prog 70 #[.pointer (some ⟨b, 0, none⟩), v] W fun e w' => ∃ v', e = .returned (.tuple #[v', .nilIface]) ∧ ∃ O', RamB w' B b p f c O' ∧ Went B O1 O' W w' ∧ w'.ownsRow W.heap.size 5 1 v' (hedF f ps).length (byteV (hedF f ps)) ∧ ∀ g, v'.ownBlock = some g → ¬ O' g) := hide (fun W O1 v Bl hM hA hL => (gath_ok (firL 16 ps) (by rw [firL_len]; have := hP.len; omega) (fun s hs => (hfo s hs).1) hM hA hG (by rw [firL_len]; exact hL) (parts_inS false _ _ (firs_inS ps 16 (by decide) (fun s hs => ⟨hP.ins s hs, (hP.ok s hs).2⟩)))).mono (by
    rintro e w' ⟨O', v', rfl, h1, h2, h3, h4⟩
    exact ⟨v', rfl, O', h1, h2, h3, h4⟩))
  have HRo : Hid (∀ W v Bl, W.ownsRow Bl 103 3 v ps.length (segL ps) → Calls Tryz.prog 72 #[v] W fun e w' => e = .returned (.tuple #[.int .i64 (roomV false 0 ps), .int .i64 (roomV true 0 ps)]) ∧ Below W.heap.size W w') := hide (fun W v Bl hL => room_any ps (by have := hP.len; omega) (fun s hs => (hP.ok s hs).1) hL)
  have hsm : ∀ y ∈ hedF f ps, y < 256 := gathF_small h.small _
  obtain ⟨rr0, rr1⟩ := roomV_in false ps 0 (by decide) (by decide)
  obtain ⟨rw0, rw1⟩ := roomV_in true ps 0 (by decide) (by decide)
  have hpl := hP.len
  obtain ⟨h16, hw1⟩ := hs
  have hlen : (hedF f ps).length = (hedF f ps).length := rfl
  have HN1 : Hid (∀ W gb cap Bl, W.ownsRow Bl 5 1 (.slice (some ⟨gb, 0, none⟩) (hedF f ps).length cap) (hedF f ps).length (byteV (hedF f ps)) → Calls Tryz.prog 73 #[.slice (some ⟨gb, 0, none⟩) 4 cap] W fun e w' => e = .returned (.int .u64 (nmL ((hedF f ps).take 4) : Nat)) ∧ Below W.heap.size W w') := hide (fun W gb cap Bl hY => by
    have hl4 : ((hedF f ps).take 4).length = 4 := by rw [List.length_take]; omega
    have := number_any ((hedF f ps).take 4) (fun y hy => hsm y (List.mem_of_mem_take hy)) (by omega) gb 0 cap W (hY.lt gb rfl).2 (fun j hj => by
      have hc := hY.cells (g := gb) rfl j (.int .u8 (((hedF f ps).take 4)[j] : Nat)) (by rw [byteV, List.getElem?_map, List.getElem?_eq_getElem (by omega), List.getElem_take]; rfl)
      rwa [Addr.add_lit] at hc)
    rwa [hl4] at this)
  have HN2 : Hid (∀ W gb cap Bl c2, W.ownsRow Bl 5 1 (.slice (some ⟨gb, 0, none⟩) (hedF f ps).length cap) (hedF f ps).length (byteV (hedF f ps)) → Calls Tryz.prog 73 #[.slice (some ⟨gb, 8, none⟩) 8 c2] W fun e w' => e = .returned (.int .u64 (nmL (((hedF f ps).drop 8).take 8) : Nat)) ∧ Below W.heap.size W w') := hide (fun W gb cap Bl c2 hY => by
    have hl8 : (((hedF f ps).drop 8).take 8).length = 8 := by rw [List.length_take, List.length_drop]; omega
    have := number_any (((hedF f ps).drop 8).take 8) (fun y hy => hsm y (List.mem_of_mem_drop (List.mem_of_mem_take hy))) (by omega) gb 8 c2 W (hY.lt gb rfl).2 (fun j hj => by
      have hc := hY.cells (g := gb) rfl (8 + j) (.int .u8 ((((hedF f ps).drop 8).take 8)[j] : Nat)) (by rw [byteV, List.getElem?_map, List.getElem?_eq_getElem (by omega), List.getElem_take, List.getElem_drop]; rfl)
      rwa [Addr.add_lit, Nat.zero_add] at hc)
    rwa [hl8] at this)
  have HMv := hide (fun v w => moves_any (chOf f hd ps) v w)
  have HFt := hide (fun v w => fits_any (chOf f hd ps) v rr0 rr1 rw0 rw1 w)
  obtain ⟨nb, hnb⟩ : ∃ n, (hedF f ps).length = n := ⟨_, rfl⟩
  rw [hnb] at HGa
  rw [hnb] at h16 HN1 HN2
  have hcc : chOf f hd ps = ⟨hd, nmL ((hedF f ps).take 4), nmL (((hedF f ps).drop 8).take 8), ps, roomV false 0 ps, roomV true 0 ps⟩ := rfl
  generalize nmL ((hedF f ps).take 4) = k1 at *
  generalize nmL (((hedF f ps).drop 8).take 8) = k2 at *
  generalize byteV (hedF f ps) = yb at *
  obtain ⟨ch, hch⟩ : ∃ x, chOf f hd ps = x := ⟨_, rfl⟩
  have HCH : Hid (∀ v, #[.int .i64 hd, .int .u64 (k1 : Nat), .int .u64 (k2 : Nat), v, .int .i64 (roomV false 0 ps), .int .i64 (roomV true 0 ps)] = ch.c v) := hide (fun v => by rw [← hch, hcc]; rfl)
  rw [hch] at HMv HFt hmv ⊢
  rw [hmv] at HMv
  generalize roomV true 0 ps = wt at *
  generalize roomV false 0 ps = rt at *
  have hnp : ps.length = ps.length := rfl
  generalize ps.length = np at *
  have t0 : decide ((nb : Int) < 16) = false := by simp; omega
  have t1 : decide (wt < 1) = false := by simp; omega
  clear hP hk hc hr0 hfo hsm hcc hch hnb hmv
  have hB0 := h.base
  have hGw : 2 < w.heap.size := Nat.lt_of_lt_of_le hG hB0
  have hA0 := hA
  clear hA
  go_enter Tryz.func33, Tryz.ntmps33
  go_wp2_with (first | ((with_reducible refine bx_rp w.heap.size r ?_ ?_ ?_); exact rfl; exact rfl; intro W hr hb hz) | ((with_reducible refine al_ch (w.heap.size + 1) ?_ ?_); exact hz.out; intro W hq hb' hz'; replace hr := hr.bl (hz.out ▸ hb'); replace hb := hb.trans (hb'.mono (by omega)); replace hz := hz'; have hM := h.bl hb; have hW := Went.of (O := O) hb hB0; have hA := hA0.bl hb; have hF := h.far 2; have hS : w.heap.size + 2 ≤ W.heap.size := Nat.le_of_eq hz.out.symm; have hB : B ≤ W.heap.size := Nat.le_trans hB0 hb.size; clear hb hz hb' hz') | ((with_reducible refine ld_rp w.heap.size _ hr ?_ ?_ ?_); exact rfl; exact rfl) | (go_at_call 69; (with_reducible refine (HWk.out _ _ hM hA).mono ?_); rintro e W2 ⟨v1, rfl, O2, hM2, hW2, hL, hLn⟩; replace hL := own_lower2 hL hS; obtain ⟨av, ac, rfl, hav1, hav2⟩ := own_form hL; replace hr := hW2.row hr (hF.at 0 (by omega)); replace hq := hW2.row hq (hF.at 1 (by omega)); replace hA := hA.wentR hG hW2; replace hF := hF.went hW2 hS; replace hS := Nat.le_trans hS hW2.size; replace hW := hW.trans hW2; replace hB := Nat.le_trans hB hW2.size; replace hM := hM2; clear hM2 hW2) | (go_at_call 71; (with_reducible refine (HFi.out _ _ _ hL).mono ?_); rintro e W3 ⟨v2, rfl, hL2, hbc⟩; replace hL := own_bel hL hbc; replace hM := hM.bl hbc; replace hW := hW.bl hbc hB; replace hA := hA.bl hbc; replace hB := Nat.le_trans hB hbc.size; replace hS := Nat.le_trans hS hbc.size; replace hr := hr.bl hbc; replace hq := hq.bl hbc; clear hbc) | (go_at_call 70; (with_reducible refine (HGa.out _ _ _ _ hM hA hL2).mono ?_); rintro e W2 ⟨v3, rfl, O2, hM2, hW2, hY, hYn⟩; obtain ⟨bv, bc, rfl, hbv1, hbv2⟩ := own_form hY; (have hLn2 := fun g e => hW2.no (hL.lt g e).2 (hLn g e)); replace hL := own_went hL hW2 hLn; (replace hLn := hLn2); clear hLn2 hL2; replace hr := hW2.row hr (hF.at 0 (by omega)); replace hq := hW2.row hq (hF.at 1 (by omega)); replace hA := hA.wentR hG hW2; replace hF := hF.went hW2 hS; replace hS := Nat.le_trans hS hW2.size; replace hW := hW.trans hW2; replace hB := Nat.le_trans hB hW2.size; replace hM := hM2; clear hM2 hW2) | (go_at_call 72; (with_reducible refine (HRo.out _ _ _ hL).mono ?_); rintro e W ⟨rfl, hbc⟩; replace hL := own_bel hL hbc; replace hY := own_bel hY hbc; replace hM := hM.bl hbc; replace hW := hW.bl hbc hB; replace hA := hA.bl hbc; replace hB := Nat.le_trans hB hbc.size; replace hS := Nat.le_trans hS hbc.size; replace hr := hr.bl hbc; replace hq := hq.bl hbc; clear hbc))
  obtain ⟨gb, bc', hve, hb1, hb2, hb3, hb4, hb5⟩ := own_pos hY (show 0 < nb by omega)
  obtain ⟨rfl, rfl⟩ : bv = some ⟨gb, 0, none⟩ ∧ bc = bc' := by injection hve with e1 e2 e3; exact ⟨e1, e3⟩
  have j1 : (4 : Int) ≤ (bc : Int) := by omega
  have j2 : (16 : Int) ≤ (bc : Int) := by omega
  have j3 : ¬ (bc : Int) = 8 := by omega
  have j4 : ¬ bc = 8 := by omega
  clear hve hb3 hb4 hb5
  refine wp_region_held_drew (S := (fun V => True)) (by kernel_rfl) ?_ (fun hHeld => ?_)
  · exact trivial
  replace hM := hM.dr
  replace hW := hW.dr
  replace hA := hA.drR
  replace hS : w.heap.size + 2 ≤ (World.drew _).heap.size := hS
  replace hB : B ≤ (World.drew _).heap.size := hB
  replace hr := hr.dr
  replace hq := hq.dr
  replace hL := own_dr hL
  replace hY := own_dr hY
  generalize World.drew _ = V at hM hW hA hS hB hr hq hL hY ⊢
  refine tkO 0 (.int .i64 hd) (by simp only [gT, gZ]; rfl) (puO (by (intro w hSw; (try dsimp only at hSw); go_simp))) ?_
  simp only [Act.put, pA, pZ, pS]
  refine tkO 1 (.slice (some ⟨gb, 0, none⟩) nb bc) (by simp only [gT, gZ, gS]; rfl) (puO (by (intro w hSw; (try dsimp only at hSw); go_simp))) ?_
  simp only [Act.put, pA, pZ, pS]
  refine tkO 4 (.slice (some ⟨gb, 0, none⟩) nb bc) (by simp only [gT, gZ, gS]; rfl) (puO (by (intro w hSw; (try dsimp only at hSw); go_simp))) ?_
  simp only [Act.put, pA, pZ, pS]
  refine tkO 7 (.slice av np ac) (by simp only [gT, gZ, gS]; rfl) (puO (by (intro w hSw; (try dsimp only at hSw); go_simp))) ?_
  simp only [Act.put, pA, pZ, pS]
  refine tkO 8 (.int .i64 rt) (by simp only [gT, gZ, gS]; rfl) (puO (by (intro w hSw; (try dsimp only at hSw); go_simp))) ?_
  simp only [Act.put, pA, pZ, pS]
  refine tkO 9 (.int .i64 wt) (by simp only [gT, gZ, gS]; rfl) (puO (by (intro w hSw; (try dsimp only at hSw); go_simp))) ?_
  simp only [Act.put, pA, pZ, pS]
  refine tkO 2 (.slice (some ⟨gb, 0, none⟩) 4 bc) (by simp only [gT, gZ, gS]; rfl) (puO (by (intro w hSw; (try dsimp only at hSw); go_simp))) ?_
  simp only [Act.put, pA, pZ, pS]
  refine tkO 5 (.slice (some ⟨gb, 8, none⟩) 8 (bc - 8)) (by simp only [gT, gZ, gS]; rfl) (puO (by (intro w hSw; (try dsimp only at hSw); go_simp))) ?_
  simp only [Act.put, pA, pZ, pS]
  refine wpAnyH_ready (rs := [3, 11]) (by kernel_rfl) (by simp) ?_
  refine AllReadyH.cons (o := ?oi31) ?hi31 (fun K hK => ?b31) (AllReadyH.cons (o := ?oi32) ?hi32 (fun K hK => ?b32) (AllReadyH.nil))
  case hi31 => (simp only [List.getElem?_toArray, List.getElem?_cons_zero, List.getElem?_cons_succ]; rfl)
  case hi32 => (simp only [List.getElem?_toArray, List.getElem?_cons_zero, List.getElem?_cons_succ]; rfl)
  case b31 =>
    rw [if_pos (by rfl)]
    go_simp
    (with_reducible refine (HN1.out _ _ _ _ hY).mono ?_)
    rintro e V2 ⟨rfl, hbc⟩
    have hH2 : Hid (True) := hide trivial
    replace hM := hM.bl hbc
    replace hW := hW.bl hbc hB
    replace hA := hA.bl hbc
    replace hB := Nat.le_trans hB hbc.size
    replace hS := Nat.le_trans hS hbc.size
    replace hr := hr.bl hbc
    replace hq := hq.bl hbc
    replace hL := own_bel hL hbc
    replace hY := own_bel hY hbc
    (try replace hcr := hcr.bl hbc)
    (try replace hNC := Nat.lt_of_lt_of_le hNC hbc.size)
    clear hHeld hbc
    go_simp
    refine hK.out _ _ ?_ (fun hHeld => ?_)
    · exact hH2.out
    clear hK K
    clear hH2
    refine wpAnyH_ready (rs := [6, 11]) (by kernel_rfl) (by simp) ?_
    refine AllReadyH.cons (o := ?oi33) ?hi33 (fun K hK => ?b33) (AllReadyH.cons (o := ?oi34) ?hi34 (fun K hK => ?b34) (AllReadyH.nil))
    case hi33 => (simp only [List.getElem?_toArray, List.getElem?_cons_zero, List.getElem?_cons_succ]; rfl)
    case hi34 => (simp only [List.getElem?_toArray, List.getElem?_cons_zero, List.getElem?_cons_succ]; rfl)
    case b33 =>
      rw [if_pos (by rfl)]
      go_simp
      (with_reducible refine (HN2.out _ _ _ _ _ hY).mono ?_)
      rintro e V3 ⟨rfl, hbc⟩
      have hH2 : Hid (True) := hide trivial
      replace hM := hM.bl hbc
      replace hW := hW.bl hbc hB
      replace hA := hA.bl hbc
      replace hB := Nat.le_trans hB hbc.size
      replace hS := Nat.le_trans hS hbc.size
      replace hr := hr.bl hbc
      replace hq := hq.bl hbc
      replace hL := own_bel hL hbc
      replace hY := own_bel hY hbc
      (try replace hcr := hcr.bl hbc)
      (try replace hNC := Nat.lt_of_lt_of_le hNC hbc.size)
      clear hHeld hbc
      go_simp
      refine hK.out _ _ ?_ (fun hHeld => ?_)
      · exact hH2.out
      clear hK K
      clear hH2
      refine tkO 10 (.agg #[.int .i64 hd, .int .u64 (k1 : Nat), .int .u64 (k2 : Nat), .slice av np ac, .int .i64 rt, .int .i64 wt]) (by simp only [gT, gZ, gS]; rfl) (puO (by (intro w hSw; (try dsimp only at hSw); go_simp))) ?_
      simp only [Act.put, pA, pZ, pS]
      refine skO 11 (by simp only [gT, gZ, gS]; rfl) (fun K hK => ?_)
      obtain ⟨NC, hNC0⟩ : ∃ n, V3.heap.size = n := ⟨_, rfl⟩
      rw [if_pos (by rfl)]
      (with_reducible refine s_alc NC hNC0 (zeroCh.c nilS) zero_ch ?_)
      intro V4 hcr hb' hz4
      have hbc := hNC0 ▸ hb'
      have hCO : Hid (w.heap.size + 2 ≤ NC) := hide (hNC0 ▸ hS)
      have hNC : NC < V4.heap.size := hcr.lt
      have hCF : ∀ (O' : Nat → Prop), (∀ x, O' x → x < NC) → ¬ O' NC := fun O' h k => absurd (h NC k) (Nat.lt_irrefl _)
      have hCN := hCF _ (fun x k => hNC0 ▸ hM.lt x k)
      have hH2 : Hid (True) := hide trivial
      replace hM := hM.bl hbc
      replace hW := hW.bl hbc hB
      replace hA := hA.bl hbc
      replace hB := Nat.le_trans hB hbc.size
      replace hS := Nat.le_trans hS hbc.size
      replace hr := hr.bl hbc
      replace hq := hq.bl hbc
      replace hL := own_bel hL hbc
      replace hY := own_bel hY hbc
      clear hHeld hbc hb' hz4 hNC0 hCF
      refine hK.out _ _ ?_ (fun hHeld => ?_)
      · exact hH2.out
      clear hK K
      clear hH2
      refine skO 12 (by simp only [gT, gZ, gS]; rfl) (fun K hK => ?_)
      rw [if_pos (by rfl)]
      have hco := hCO.out
      (with_reducible refine s_ch NC _ _ ch (.slice av np ac) rfl hcr ?_ ?_ ?_)
      · exact rfl
      · exact congrArg Value.agg (HCH.out _)
      intro V5 hnew ho
      have hH2 : Hid (True) := hide trivial
      replace hr := hr.only ho (by omega)
      replace hq := hq.only ho (by omega)
      replace hL := own_only hL ho (fun e => absurd (own_ty hL e hcr) (by decide))
      replace hM := hM.only ho hCN
      replace hA := hA.onlyR ho (by omega)
      replace hW := hW.only ho (by omega) (by omega)
      replace hS := (show w.heap.size + 2 ≤ V5.heap.size by rw [ho.size]; exact hS)
      replace hB := (show B ≤ V5.heap.size by rw [ho.size]; exact hB)
      replace hcr := hnew
      clear hHeld ho hnew hY hco
      refine hK.out _ _ ?_ (fun hHeld => ?_)
      · exact hH2.out
      clear hK K
      clear hH2
      refine wpAnyH_done (by kernel_rfl) ?_ _
      clear hHeld
      have hCO2 := hCO.out
      go_wp2_with (first | ((with_reducible refine ld_ch NC ch _ hcr ?_ ?_ ?_); exact rfl; exact rfl) | (go_at_call 74; (with_reducible refine (HMv.out _ _).mono ?_); rintro e W ⟨rfl, hbc⟩; replace hM := hM.bl hbc; replace hW := hW.bl hbc hB; replace hA := hA.bl hbc; replace hB := Nat.le_trans hB hbc.size; replace hS := Nat.le_trans hS hbc.size; replace hr := hr.bl hbc; replace hq := hq.bl hbc; replace hcr := hcr.bl hbc; replace hL := own_bel hL hbc; clear hbc) | (go_at_call 75; (with_reducible refine (HFt.out _ _).mono ?_); rintro e W ⟨rfl, hbc⟩; replace hM := hM.bl hbc; replace hW := hW.bl hbc hB; replace hA := hA.bl hbc; replace hB := Nat.le_trans hB hbc.size; replace hS := Nat.le_trans hS hbc.size; replace hr := hr.bl hbc; replace hq := hq.bl hbc; replace hcr := hcr.bl hbc; replace hL := own_bel hL hbc; clear hbc) | ((with_reducible refine st_ch (w.heap.size + 1) _ _ ch (.slice av np ac) rfl hq ?_ ?_ ?_); exact rfl; exact rfl; intro W hnew ho; replace hL := own_only hL ho (fun e => absurd (hL.lt _ e).1 (by omega)); replace hr := hr.only ho (by omega); replace hM := hM.only ho (hF.at 1 (by omega)); replace hA := hA.onlyR ho (by omega); replace hW := hW.only ho (by omega) (by omega); replace hS := (show w.heap.size + 2 ≤ W.heap.size by rw [ho.size]; exact hS); replace hB := (show B ≤ W.heap.size by rw [ho.size]; exact hB); replace hq := hnew; clear hnew ho))
      refine bodyPost_ret (results_cell_u Tryz.results33 _ _ (w.heap.size + 1) _ _ _ rfl hq Tryz.underlying110 rfl size_ch) rfl ?_
      exact ⟨_, rfl, _, hM, hW, own_lower2 hL (by omega), fun g e => hLn g e⟩
    case b34 =>
      obtain ⟨NC, hNC0⟩ : ∃ n, V2.heap.size = n := ⟨_, rfl⟩
      rw [if_pos (by rfl)]
      (with_reducible refine s_alc NC hNC0 (zeroCh.c nilS) zero_ch ?_)
      intro V4 hcr hb' hz4
      have hbc := hNC0 ▸ hb'
      have hCO : Hid (w.heap.size + 2 ≤ NC) := hide (hNC0 ▸ hS)
      have hNC : NC < V4.heap.size := hcr.lt
      have hCF : ∀ (O' : Nat → Prop), (∀ x, O' x → x < NC) → ¬ O' NC := fun O' h k => absurd (h NC k) (Nat.lt_irrefl _)
      have hCN := hCF _ (fun x k => hNC0 ▸ hM.lt x k)
      have hH2 : Hid (True) := hide trivial
      replace hM := hM.bl hbc
      replace hW := hW.bl hbc hB
      replace hA := hA.bl hbc
      replace hB := Nat.le_trans hB hbc.size
      replace hS := Nat.le_trans hS hbc.size
      replace hr := hr.bl hbc
      replace hq := hq.bl hbc
      replace hL := own_bel hL hbc
      replace hY := own_bel hY hbc
      clear hHeld hbc hb' hz4 hNC0 hCF
      refine hK.out _ _ ?_ (fun hHeld => ?_)
      · exact hH2.out
      clear hK K
      clear hH2
      refine skO 6 (by simp only [gT, gZ, gS]; rfl) (fun K hK => ?_)
      rw [if_pos (by rfl)]
      go_simp
      (with_reducible refine (HN2.out _ _ _ _ _ hY).mono ?_)
      rintro e V3 ⟨rfl, hbc⟩
      have hH2 : Hid (True) := hide trivial
      replace hM := hM.bl hbc
      replace hW := hW.bl hbc hB
      replace hA := hA.bl hbc
      replace hB := Nat.le_trans hB hbc.size
      replace hS := Nat.le_trans hS hbc.size
      replace hr := hr.bl hbc
      replace hq := hq.bl hbc
      replace hL := own_bel hL hbc
      replace hY := own_bel hY hbc
      (try replace hcr := hcr.bl hbc)
      (try replace hNC := Nat.lt_of_lt_of_le hNC hbc.size)
      clear hHeld hbc
      go_simp
      refine hK.out _ _ ?_ (fun hHeld => ?_)
      · exact hH2.out
      clear hK K
      clear hH2
      refine tkO 10 (.agg #[.int .i64 hd, .int .u64 (k1 : Nat), .int .u64 (k2 : Nat), .slice av np ac, .int .i64 rt, .int .i64 wt]) (by simp only [gT, gZ, gS]; rfl) (puO (by (intro w hSw; (try dsimp only at hSw); go_simp))) ?_
      simp only [Act.put, pA, pZ, pS]
      refine skO 12 (by simp only [gT, gZ, gS]; rfl) (fun K hK => ?_)
      rw [if_pos (by rfl)]
      have hco := hCO.out
      (with_reducible refine s_ch NC _ _ ch (.slice av np ac) rfl hcr ?_ ?_ ?_)
      · exact rfl
      · exact congrArg Value.agg (HCH.out _)
      intro V5 hnew ho
      have hH2 : Hid (True) := hide trivial
      replace hr := hr.only ho (by omega)
      replace hq := hq.only ho (by omega)
      replace hL := own_only hL ho (fun e => absurd (own_ty hL e hcr) (by decide))
      replace hM := hM.only ho hCN
      replace hA := hA.onlyR ho (by omega)
      replace hW := hW.only ho (by omega) (by omega)
      replace hS := (show w.heap.size + 2 ≤ V5.heap.size by rw [ho.size]; exact hS)
      replace hB := (show B ≤ V5.heap.size by rw [ho.size]; exact hB)
      replace hcr := hnew
      clear hHeld ho hnew hY hco
      refine hK.out _ _ ?_ (fun hHeld => ?_)
      · exact hH2.out
      clear hK K
      clear hH2
      refine wpAnyH_done (by kernel_rfl) ?_ _
      clear hHeld
      have hCO2 := hCO.out
      go_wp2_with (first | ((with_reducible refine ld_ch NC ch _ hcr ?_ ?_ ?_); exact rfl; exact rfl) | (go_at_call 74; (with_reducible refine (HMv.out _ _).mono ?_); rintro e W ⟨rfl, hbc⟩; replace hM := hM.bl hbc; replace hW := hW.bl hbc hB; replace hA := hA.bl hbc; replace hB := Nat.le_trans hB hbc.size; replace hS := Nat.le_trans hS hbc.size; replace hr := hr.bl hbc; replace hq := hq.bl hbc; replace hcr := hcr.bl hbc; replace hL := own_bel hL hbc; clear hbc) | (go_at_call 75; (with_reducible refine (HFt.out _ _).mono ?_); rintro e W ⟨rfl, hbc⟩; replace hM := hM.bl hbc; replace hW := hW.bl hbc hB; replace hA := hA.bl hbc; replace hB := Nat.le_trans hB hbc.size; replace hS := Nat.le_trans hS hbc.size; replace hr := hr.bl hbc; replace hq := hq.bl hbc; replace hcr := hcr.bl hbc; replace hL := own_bel hL hbc; clear hbc) | ((with_reducible refine st_ch (w.heap.size + 1) _ _ ch (.slice av np ac) rfl hq ?_ ?_ ?_); exact rfl; exact rfl; intro W hnew ho; replace hL := own_only hL ho (fun e => absurd (hL.lt _ e).1 (by omega)); replace hr := hr.only ho (by omega); replace hM := hM.only ho (hF.at 1 (by omega)); replace hA := hA.onlyR ho (by omega); replace hW := hW.only ho (by omega) (by omega); replace hS := (show w.heap.size + 2 ≤ W.heap.size by rw [ho.size]; exact hS); replace hB := (show B ≤ W.heap.size by rw [ho.size]; exact hB); replace hq := hnew; clear hnew ho))
      refine bodyPost_ret (results_cell_u Tryz.results33 _ _ (w.heap.size + 1) _ _ _ rfl hq Tryz.underlying110 rfl size_ch) rfl ?_
      exact ⟨_, rfl, _, hM, hW, own_lower2 hL (by omega), fun g e => hLn g e⟩
  case b32 =>
    obtain ⟨NC, hNC0⟩ : ∃ n, V.heap.size = n := ⟨_, rfl⟩
    rw [if_pos (by rfl)]
    (with_reducible refine s_alc NC hNC0 (zeroCh.c nilS) zero_ch ?_)
    intro V4 hcr hb' hz4
    have hbc := hNC0 ▸ hb'
    have hCO : Hid (w.heap.size + 2 ≤ NC) := hide (hNC0 ▸ hS)
    have hNC : NC < V4.heap.size := hcr.lt
    have hCF : ∀ (O' : Nat → Prop), (∀ x, O' x → x < NC) → ¬ O' NC := fun O' h k => absurd (h NC k) (Nat.lt_irrefl _)
    have hCN := hCF _ (fun x k => hNC0 ▸ hM.lt x k)
    have hH2 : Hid (True) := hide trivial
    replace hM := hM.bl hbc
    replace hW := hW.bl hbc hB
    replace hA := hA.bl hbc
    replace hB := Nat.le_trans hB hbc.size
    replace hS := Nat.le_trans hS hbc.size
    replace hr := hr.bl hbc
    replace hq := hq.bl hbc
    replace hL := own_bel hL hbc
    replace hY := own_bel hY hbc
    clear hHeld hbc hb' hz4 hNC0 hCF
    refine hK.out _ _ ?_ (fun hHeld => ?_)
    · exact hH2.out
    clear hK K
    clear hH2
    refine skO 3 (by simp only [gT, gZ, gS]; rfl) (fun K hK => ?_)
    rw [if_pos (by rfl)]
    go_simp
    (with_reducible refine (HN1.out _ _ _ _ hY).mono ?_)
    rintro e V2 ⟨rfl, hbc⟩
    have hH2 : Hid (True) := hide trivial
    replace hM := hM.bl hbc
    replace hW := hW.bl hbc hB
    replace hA := hA.bl hbc
    replace hB := Nat.le_trans hB hbc.size
    replace hS := Nat.le_trans hS hbc.size
    replace hr := hr.bl hbc
    replace hq := hq.bl hbc
    replace hL := own_bel hL hbc
    replace hY := own_bel hY hbc
    (try replace hcr := hcr.bl hbc)
    (try replace hNC := Nat.lt_of_lt_of_le hNC hbc.size)
    clear hHeld hbc
    go_simp
    refine hK.out _ _ ?_ (fun hHeld => ?_)
    · exact hH2.out
    clear hK K
    clear hH2
    refine skO 6 (by simp only [gT, gZ, gS]; rfl) (fun K hK => ?_)
    rw [if_pos (by rfl)]
    go_simp
    (with_reducible refine (HN2.out _ _ _ _ _ hY).mono ?_)
    rintro e V3 ⟨rfl, hbc⟩
    have hH2 : Hid (True) := hide trivial
    replace hM := hM.bl hbc
    replace hW := hW.bl hbc hB
    replace hA := hA.bl hbc
    replace hB := Nat.le_trans hB hbc.size
    replace hS := Nat.le_trans hS hbc.size
    replace hr := hr.bl hbc
    replace hq := hq.bl hbc
    replace hL := own_bel hL hbc
    replace hY := own_bel hY hbc
    (try replace hcr := hcr.bl hbc)
    (try replace hNC := Nat.lt_of_lt_of_le hNC hbc.size)
    clear hHeld hbc
    go_simp
    refine hK.out _ _ ?_ (fun hHeld => ?_)
    · exact hH2.out
    clear hK K
    clear hH2
    refine tkO 10 (.agg #[.int .i64 hd, .int .u64 (k1 : Nat), .int .u64 (k2 : Nat), .slice av np ac, .int .i64 rt, .int .i64 wt]) (by simp only [gT, gZ, gS]; rfl) (puO (by (intro w hSw; (try dsimp only at hSw); go_simp))) ?_
    simp only [Act.put, pA, pZ, pS]
    refine skO 12 (by simp only [gT, gZ, gS]; rfl) (fun K hK => ?_)
    rw [if_pos (by rfl)]
    have hco := hCO.out
    (with_reducible refine s_ch NC _ _ ch (.slice av np ac) rfl hcr ?_ ?_ ?_)
    · exact rfl
    · exact congrArg Value.agg (HCH.out _)
    intro V5 hnew ho
    have hH2 : Hid (True) := hide trivial
    replace hr := hr.only ho (by omega)
    replace hq := hq.only ho (by omega)
    replace hL := own_only hL ho (fun e => absurd (own_ty hL e hcr) (by decide))
    replace hM := hM.only ho hCN
    replace hA := hA.onlyR ho (by omega)
    replace hW := hW.only ho (by omega) (by omega)
    replace hS := (show w.heap.size + 2 ≤ V5.heap.size by rw [ho.size]; exact hS)
    replace hB := (show B ≤ V5.heap.size by rw [ho.size]; exact hB)
    replace hcr := hnew
    clear hHeld ho hnew hY hco
    refine hK.out _ _ ?_ (fun hHeld => ?_)
    · exact hH2.out
    clear hK K
    clear hH2
    refine wpAnyH_done (by kernel_rfl) ?_ _
    clear hHeld
    have hCO2 := hCO.out
    go_wp2_with (first | ((with_reducible refine ld_ch NC ch _ hcr ?_ ?_ ?_); exact rfl; exact rfl) | (go_at_call 74; (with_reducible refine (HMv.out _ _).mono ?_); rintro e W ⟨rfl, hbc⟩; replace hM := hM.bl hbc; replace hW := hW.bl hbc hB; replace hA := hA.bl hbc; replace hB := Nat.le_trans hB hbc.size; replace hS := Nat.le_trans hS hbc.size; replace hr := hr.bl hbc; replace hq := hq.bl hbc; replace hcr := hcr.bl hbc; replace hL := own_bel hL hbc; clear hbc) | (go_at_call 75; (with_reducible refine (HFt.out _ _).mono ?_); rintro e W ⟨rfl, hbc⟩; replace hM := hM.bl hbc; replace hW := hW.bl hbc hB; replace hA := hA.bl hbc; replace hB := Nat.le_trans hB hbc.size; replace hS := Nat.le_trans hS hbc.size; replace hr := hr.bl hbc; replace hq := hq.bl hbc; replace hcr := hcr.bl hbc; replace hL := own_bel hL hbc; clear hbc) | ((with_reducible refine st_ch (w.heap.size + 1) _ _ ch (.slice av np ac) rfl hq ?_ ?_ ?_); exact rfl; exact rfl; intro W hnew ho; replace hL := own_only hL ho (fun e => absurd (hL.lt _ e).1 (by omega)); replace hr := hr.only ho (by omega); replace hM := hM.only ho (hF.at 1 (by omega)); replace hA := hA.onlyR ho (by omega); replace hW := hW.only ho (by omega) (by omega); replace hS := (show w.heap.size + 2 ≤ W.heap.size by rw [ho.size]; exact hS); replace hB := (show B ≤ W.heap.size by rw [ho.size]; exact hB); replace hq := hnew; clear hnew ho))
    refine bodyPost_ret (results_cell_u Tryz.results33 _ _ (w.heap.size + 1) _ _ _ rfl hq Tryz.underlying110 rfl size_ch) rfl ?_
    exact ⟨_, rfl, _, hM, hW, own_lower2 hL (by omega), fun g e => hLn g e⟩
set_option maxRecDepth 20000 in
set_option maxHeartbeats 4000000 in
theorem look_fit (r : Rg) (hr0 : r.Ok) (hc : chkR r = true) (hd : Int) {w : World} {B b p c : Nat} {f : Nat → Nat} {O : Nat → Prop} (h : RamB w B b p f c O) (hA : AreasAt w) (hG : 2 < B) (ps : List Sg) (hk : walkV p f r hd = some ps) (hs : 16 ≤ (hedF f ps).length ∧ 1 ≤ roomV true 0 ps) (hmv : (chOf f hd ps).mov = true) (hft : (chOf f hd ps).fit = true) : Calls Tryz.prog 33 #[.agg r.cells, .pointer (some ⟨b, 0, none⟩), .int .i64 hd] w fun e w' => ∃ v, e = .returned (.tuple #[.agg ((chOf f hd ps).c v), .nilIface]) ∧ ∃ O', RamB w' B b p f c O' ∧ Went B O O' w w' ∧ w'.ownsRow w.heap.size 103 3 v ps.length (segL ps) ∧ ∀ g, v.ownBlock = some g → ¬ O' g := by
  have hP := walk_parts h.small hc hk
  have HWk : Hid (∀ W O1, RamB W B b p f c O1 → AreasAt W → Calls Tryz.prog 69 #[.agg r.cells, .pointer (some ⟨b, 0, none⟩), .int .i64 hd] W fun e w' => ∃ v, e = .returned (.tuple #[v, .nilIface]) ∧ ∃ O', RamB w' B b p f c O' ∧ Went B O1 O' W w' ∧ w'.ownsRow W.heap.size 103 3 v ps.length (segL ps) ∧ ∀ g, v.ownBlock = some g → ¬ O' g) := hide (fun W O1 hM hA => (walk_all r hr0 hc hd hM hA hG).mono (by
    rintro e w' ⟨O', h1, h2, ⟨h3, _⟩ | ⟨ps', v, h3, rfl, h4, h5⟩⟩
    · rw [hk] at h3; cases h3
    · rw [hk] at h3; cases h3; exact ⟨v, rfl, O', h1, h2, h4, h5⟩))
  have hfo := firL_ok ps 16 hP.ok (by decide) (by decide)
  have HFi : Hid (∀ W v Bl, W.ownsRow Bl 103 3 v ps.length (segL ps) → Calls Tryz.prog 71 #[v, .int .i64 16] W fun e w' => ∃ v', e = .returned v' ∧ w'.ownsRow W.heap.size 103 3 v' ps.length (segL (firL 16 ps)) ∧ Below W.heap.size W w') := hide (fun W v Bl hL => first_any ps (by have := hP.len; omega) hP.pos hP.ok hL)
  have HGa : Hid (∀ W O1 v Bl, RamB W B b p f c O1 → AreasAt W → W.ownsRow Bl 103 3 v ps.length (segL (firL 16 ps)) → Calls Tryz.prog 70 #[.pointer (some ⟨b, 0, none⟩), v] W fun e w' => ∃ v', e = .returned (.tuple #[v', .nilIface]) ∧ ∃ O', RamB w' B b p f c O' ∧ Went B O1 O' W w' ∧ w'.ownsRow W.heap.size 5 1 v' (hedF f ps).length (byteV (hedF f ps)) ∧ ∀ g, v'.ownBlock = some g → ¬ O' g) := hide (fun W O1 v Bl hM hA hL => (gath_ok (firL 16 ps) (by rw [firL_len]; have := hP.len; omega) (fun s hs => (hfo s hs).1) hM hA hG (by rw [firL_len]; exact hL) (parts_inS false _ _ (firs_inS ps 16 (by decide) (fun s hs => ⟨hP.ins s hs, (hP.ok s hs).2⟩)))).mono (by
    rintro e w' ⟨O', v', rfl, h1, h2, h3, h4⟩
    exact ⟨v', rfl, O', h1, h2, h3, h4⟩))
  have HRo : Hid (∀ W v Bl, W.ownsRow Bl 103 3 v ps.length (segL ps) → Calls Tryz.prog 72 #[v] W fun e w' => e = .returned (.tuple #[.int .i64 (roomV false 0 ps), .int .i64 (roomV true 0 ps)]) ∧ Below W.heap.size W w') := hide (fun W v Bl hL => room_any ps (by have := hP.len; omega) (fun s hs => (hP.ok s hs).1) hL)
  have hsm : ∀ y ∈ hedF f ps, y < 256 := gathF_small h.small _
  obtain ⟨rr0, rr1⟩ := roomV_in false ps 0 (by decide) (by decide)
  obtain ⟨rw0, rw1⟩ := roomV_in true ps 0 (by decide) (by decide)
  have hpl := hP.len
  obtain ⟨h16, hw1⟩ := hs
  have hlen : (hedF f ps).length = (hedF f ps).length := rfl
  have HN1 : Hid (∀ W gb cap Bl, W.ownsRow Bl 5 1 (.slice (some ⟨gb, 0, none⟩) (hedF f ps).length cap) (hedF f ps).length (byteV (hedF f ps)) → Calls Tryz.prog 73 #[.slice (some ⟨gb, 0, none⟩) 4 cap] W fun e w' => e = .returned (.int .u64 (nmL ((hedF f ps).take 4) : Nat)) ∧ Below W.heap.size W w') := hide (fun W gb cap Bl hY => by
    have hl4 : ((hedF f ps).take 4).length = 4 := by rw [List.length_take]; omega
    have := number_any ((hedF f ps).take 4) (fun y hy => hsm y (List.mem_of_mem_take hy)) (by omega) gb 0 cap W (hY.lt gb rfl).2 (fun j hj => by
      have hc := hY.cells (g := gb) rfl j (.int .u8 (((hedF f ps).take 4)[j] : Nat)) (by rw [byteV, List.getElem?_map, List.getElem?_eq_getElem (by omega), List.getElem_take]; rfl)
      rwa [Addr.add_lit] at hc)
    rwa [hl4] at this)
  have HN2 : Hid (∀ W gb cap Bl c2, W.ownsRow Bl 5 1 (.slice (some ⟨gb, 0, none⟩) (hedF f ps).length cap) (hedF f ps).length (byteV (hedF f ps)) → Calls Tryz.prog 73 #[.slice (some ⟨gb, 8, none⟩) 8 c2] W fun e w' => e = .returned (.int .u64 (nmL (((hedF f ps).drop 8).take 8) : Nat)) ∧ Below W.heap.size W w') := hide (fun W gb cap Bl c2 hY => by
    have hl8 : (((hedF f ps).drop 8).take 8).length = 8 := by rw [List.length_take, List.length_drop]; omega
    have := number_any (((hedF f ps).drop 8).take 8) (fun y hy => hsm y (List.mem_of_mem_drop (List.mem_of_mem_take hy))) (by omega) gb 8 c2 W (hY.lt gb rfl).2 (fun j hj => by
      have hc := hY.cells (g := gb) rfl (8 + j) (.int .u8 ((((hedF f ps).drop 8).take 8)[j] : Nat)) (by rw [byteV, List.getElem?_map, List.getElem?_eq_getElem (by omega), List.getElem_take, List.getElem_drop]; rfl)
      rwa [Addr.add_lit, Nat.zero_add] at hc)
    rwa [hl8] at this)
  have HMv := hide (fun v w => moves_any (chOf f hd ps) v w)
  have HFt := hide (fun v w => fits_any (chOf f hd ps) v rr0 rr1 rw0 rw1 w)
  obtain ⟨nb, hnb⟩ : ∃ n, (hedF f ps).length = n := ⟨_, rfl⟩
  rw [hnb] at HGa
  rw [hnb] at h16 HN1 HN2
  have hcc : chOf f hd ps = ⟨hd, nmL ((hedF f ps).take 4), nmL (((hedF f ps).drop 8).take 8), ps, roomV false 0 ps, roomV true 0 ps⟩ := rfl
  generalize nmL ((hedF f ps).take 4) = k1 at *
  generalize nmL (((hedF f ps).drop 8).take 8) = k2 at *
  generalize byteV (hedF f ps) = yb at *
  obtain ⟨ch, hch⟩ : ∃ x, chOf f hd ps = x := ⟨_, rfl⟩
  have HCH : Hid (∀ v, #[.int .i64 hd, .int .u64 (k1 : Nat), .int .u64 (k2 : Nat), v, .int .i64 (roomV false 0 ps), .int .i64 (roomV true 0 ps)] = ch.c v) := hide (fun v => by rw [← hch, hcc]; rfl)
  rw [hch] at HMv HFt hmv hft ⊢
  rw [hmv] at HMv
  rw [hft] at HFt
  generalize roomV true 0 ps = wt at *
  generalize roomV false 0 ps = rt at *
  have hnp : ps.length = ps.length := rfl
  generalize ps.length = np at *
  have t0 : decide ((nb : Int) < 16) = false := by simp; omega
  have t1 : decide (wt < 1) = false := by simp; omega
  clear hP hk hc hr0 hfo hsm hcc hch hnb hmv hft
  have hB0 := h.base
  have hGw : 2 < w.heap.size := Nat.lt_of_lt_of_le hG hB0
  have hA0 := hA
  clear hA
  go_enter Tryz.func33, Tryz.ntmps33
  go_wp2_with (first | ((with_reducible refine bx_rp w.heap.size r ?_ ?_ ?_); exact rfl; exact rfl; intro W hr hb hz) | ((with_reducible refine al_ch (w.heap.size + 1) ?_ ?_); exact hz.out; intro W hq hb' hz'; replace hr := hr.bl (hz.out ▸ hb'); replace hb := hb.trans (hb'.mono (by omega)); replace hz := hz'; have hM := h.bl hb; have hW := Went.of (O := O) hb hB0; have hA := hA0.bl hb; have hF := h.far 2; have hS : w.heap.size + 2 ≤ W.heap.size := Nat.le_of_eq hz.out.symm; have hB : B ≤ W.heap.size := Nat.le_trans hB0 hb.size; clear hb hz hb' hz') | ((with_reducible refine ld_rp w.heap.size _ hr ?_ ?_ ?_); exact rfl; exact rfl) | (go_at_call 69; (with_reducible refine (HWk.out _ _ hM hA).mono ?_); rintro e W2 ⟨v1, rfl, O2, hM2, hW2, hL, hLn⟩; replace hL := own_lower2 hL hS; obtain ⟨av, ac, rfl, hav1, hav2⟩ := own_form hL; replace hr := hW2.row hr (hF.at 0 (by omega)); replace hq := hW2.row hq (hF.at 1 (by omega)); replace hA := hA.wentR hG hW2; replace hF := hF.went hW2 hS; replace hS := Nat.le_trans hS hW2.size; replace hW := hW.trans hW2; replace hB := Nat.le_trans hB hW2.size; replace hM := hM2; clear hM2 hW2) | (go_at_call 71; (with_reducible refine (HFi.out _ _ _ hL).mono ?_); rintro e W3 ⟨v2, rfl, hL2, hbc⟩; replace hL := own_bel hL hbc; replace hM := hM.bl hbc; replace hW := hW.bl hbc hB; replace hA := hA.bl hbc; replace hB := Nat.le_trans hB hbc.size; replace hS := Nat.le_trans hS hbc.size; replace hr := hr.bl hbc; replace hq := hq.bl hbc; clear hbc) | (go_at_call 70; (with_reducible refine (HGa.out _ _ _ _ hM hA hL2).mono ?_); rintro e W2 ⟨v3, rfl, O2, hM2, hW2, hY, hYn⟩; obtain ⟨bv, bc, rfl, hbv1, hbv2⟩ := own_form hY; (have hLn2 := fun g e => hW2.no (hL.lt g e).2 (hLn g e)); replace hL := own_went hL hW2 hLn; (replace hLn := hLn2); clear hLn2 hL2; replace hr := hW2.row hr (hF.at 0 (by omega)); replace hq := hW2.row hq (hF.at 1 (by omega)); replace hA := hA.wentR hG hW2; replace hF := hF.went hW2 hS; replace hS := Nat.le_trans hS hW2.size; replace hW := hW.trans hW2; replace hB := Nat.le_trans hB hW2.size; replace hM := hM2; clear hM2 hW2) | (go_at_call 72; (with_reducible refine (HRo.out _ _ _ hL).mono ?_); rintro e W ⟨rfl, hbc⟩; replace hL := own_bel hL hbc; replace hY := own_bel hY hbc; replace hM := hM.bl hbc; replace hW := hW.bl hbc hB; replace hA := hA.bl hbc; replace hB := Nat.le_trans hB hbc.size; replace hS := Nat.le_trans hS hbc.size; replace hr := hr.bl hbc; replace hq := hq.bl hbc; clear hbc))
  obtain ⟨gb, bc', hve, hb1, hb2, hb3, hb4, hb5⟩ := own_pos hY (show 0 < nb by omega)
  obtain ⟨rfl, rfl⟩ : bv = some ⟨gb, 0, none⟩ ∧ bc = bc' := by injection hve with e1 e2 e3; exact ⟨e1, e3⟩
  have j1 : (4 : Int) ≤ (bc : Int) := by omega
  have j2 : (16 : Int) ≤ (bc : Int) := by omega
  have j3 : ¬ (bc : Int) = 8 := by omega
  have j4 : ¬ bc = 8 := by omega
  clear hve hb3 hb4 hb5
  refine wp_region_held_drew (S := (fun V => True)) (by kernel_rfl) ?_ (fun hHeld => ?_)
  · exact trivial
  replace hM := hM.dr
  replace hW := hW.dr
  replace hA := hA.drR
  replace hS : w.heap.size + 2 ≤ (World.drew _).heap.size := hS
  replace hB : B ≤ (World.drew _).heap.size := hB
  replace hr := hr.dr
  replace hq := hq.dr
  replace hL := own_dr hL
  replace hY := own_dr hY
  generalize World.drew _ = V at hM hW hA hS hB hr hq hL hY ⊢
  refine tkO 0 (.int .i64 hd) (by simp only [gT, gZ]; rfl) (puO (by (intro w hSw; (try dsimp only at hSw); go_simp))) ?_
  simp only [Act.put, pA, pZ, pS]
  refine tkO 1 (.slice (some ⟨gb, 0, none⟩) nb bc) (by simp only [gT, gZ, gS]; rfl) (puO (by (intro w hSw; (try dsimp only at hSw); go_simp))) ?_
  simp only [Act.put, pA, pZ, pS]
  refine tkO 4 (.slice (some ⟨gb, 0, none⟩) nb bc) (by simp only [gT, gZ, gS]; rfl) (puO (by (intro w hSw; (try dsimp only at hSw); go_simp))) ?_
  simp only [Act.put, pA, pZ, pS]
  refine tkO 7 (.slice av np ac) (by simp only [gT, gZ, gS]; rfl) (puO (by (intro w hSw; (try dsimp only at hSw); go_simp))) ?_
  simp only [Act.put, pA, pZ, pS]
  refine tkO 8 (.int .i64 rt) (by simp only [gT, gZ, gS]; rfl) (puO (by (intro w hSw; (try dsimp only at hSw); go_simp))) ?_
  simp only [Act.put, pA, pZ, pS]
  refine tkO 9 (.int .i64 wt) (by simp only [gT, gZ, gS]; rfl) (puO (by (intro w hSw; (try dsimp only at hSw); go_simp))) ?_
  simp only [Act.put, pA, pZ, pS]
  refine tkO 2 (.slice (some ⟨gb, 0, none⟩) 4 bc) (by simp only [gT, gZ, gS]; rfl) (puO (by (intro w hSw; (try dsimp only at hSw); go_simp))) ?_
  simp only [Act.put, pA, pZ, pS]
  refine tkO 5 (.slice (some ⟨gb, 8, none⟩) 8 (bc - 8)) (by simp only [gT, gZ, gS]; rfl) (puO (by (intro w hSw; (try dsimp only at hSw); go_simp))) ?_
  simp only [Act.put, pA, pZ, pS]
  refine wpAnyH_ready (rs := [3, 11]) (by kernel_rfl) (by simp) ?_
  refine AllReadyH.cons (o := ?oi53) ?hi53 (fun K hK => ?b53) (AllReadyH.cons (o := ?oi54) ?hi54 (fun K hK => ?b54) (AllReadyH.nil))
  case hi53 => (simp only [List.getElem?_toArray, List.getElem?_cons_zero, List.getElem?_cons_succ]; rfl)
  case hi54 => (simp only [List.getElem?_toArray, List.getElem?_cons_zero, List.getElem?_cons_succ]; rfl)
  case b53 =>
    rw [if_pos (by rfl)]
    go_simp
    (with_reducible refine (HN1.out _ _ _ _ hY).mono ?_)
    rintro e V2 ⟨rfl, hbc⟩
    have hH2 : Hid (True) := hide trivial
    replace hM := hM.bl hbc
    replace hW := hW.bl hbc hB
    replace hA := hA.bl hbc
    replace hB := Nat.le_trans hB hbc.size
    replace hS := Nat.le_trans hS hbc.size
    replace hr := hr.bl hbc
    replace hq := hq.bl hbc
    replace hL := own_bel hL hbc
    replace hY := own_bel hY hbc
    (try replace hcr := hcr.bl hbc)
    (try replace hNC := Nat.lt_of_lt_of_le hNC hbc.size)
    clear hHeld hbc
    go_simp
    refine hK.out _ _ ?_ (fun hHeld => ?_)
    · exact hH2.out
    clear hK K
    clear hH2
    refine wpAnyH_ready (rs := [6, 11]) (by kernel_rfl) (by simp) ?_
    refine AllReadyH.cons (o := ?oi55) ?hi55 (fun K hK => ?b55) (AllReadyH.cons (o := ?oi56) ?hi56 (fun K hK => ?b56) (AllReadyH.nil))
    case hi55 => (simp only [List.getElem?_toArray, List.getElem?_cons_zero, List.getElem?_cons_succ]; rfl)
    case hi56 => (simp only [List.getElem?_toArray, List.getElem?_cons_zero, List.getElem?_cons_succ]; rfl)
    case b55 =>
      rw [if_pos (by rfl)]
      go_simp
      (with_reducible refine (HN2.out _ _ _ _ _ hY).mono ?_)
      rintro e V3 ⟨rfl, hbc⟩
      have hH2 : Hid (True) := hide trivial
      replace hM := hM.bl hbc
      replace hW := hW.bl hbc hB
      replace hA := hA.bl hbc
      replace hB := Nat.le_trans hB hbc.size
      replace hS := Nat.le_trans hS hbc.size
      replace hr := hr.bl hbc
      replace hq := hq.bl hbc
      replace hL := own_bel hL hbc
      replace hY := own_bel hY hbc
      (try replace hcr := hcr.bl hbc)
      (try replace hNC := Nat.lt_of_lt_of_le hNC hbc.size)
      clear hHeld hbc
      go_simp
      refine hK.out _ _ ?_ (fun hHeld => ?_)
      · exact hH2.out
      clear hK K
      clear hH2
      refine tkO 10 (.agg #[.int .i64 hd, .int .u64 (k1 : Nat), .int .u64 (k2 : Nat), .slice av np ac, .int .i64 rt, .int .i64 wt]) (by simp only [gT, gZ, gS]; rfl) (puO (by (intro w hSw; (try dsimp only at hSw); go_simp))) ?_
      simp only [Act.put, pA, pZ, pS]
      refine skO 11 (by simp only [gT, gZ, gS]; rfl) (fun K hK => ?_)
      obtain ⟨NC, hNC0⟩ : ∃ n, V3.heap.size = n := ⟨_, rfl⟩
      rw [if_pos (by rfl)]
      (with_reducible refine s_alc NC hNC0 (zeroCh.c nilS) zero_ch ?_)
      intro V4 hcr hb' hz4
      have hbc := hNC0 ▸ hb'
      have hCO : Hid (w.heap.size + 2 ≤ NC) := hide (hNC0 ▸ hS)
      have hNC : NC < V4.heap.size := hcr.lt
      have hCF : ∀ (O' : Nat → Prop), (∀ x, O' x → x < NC) → ¬ O' NC := fun O' h k => absurd (h NC k) (Nat.lt_irrefl _)
      have hCN := hCF _ (fun x k => hNC0 ▸ hM.lt x k)
      have hH2 : Hid (True) := hide trivial
      replace hM := hM.bl hbc
      replace hW := hW.bl hbc hB
      replace hA := hA.bl hbc
      replace hB := Nat.le_trans hB hbc.size
      replace hS := Nat.le_trans hS hbc.size
      replace hr := hr.bl hbc
      replace hq := hq.bl hbc
      replace hL := own_bel hL hbc
      replace hY := own_bel hY hbc
      clear hHeld hbc hb' hz4 hNC0 hCF
      refine hK.out _ _ ?_ (fun hHeld => ?_)
      · exact hH2.out
      clear hK K
      clear hH2
      refine skO 12 (by simp only [gT, gZ, gS]; rfl) (fun K hK => ?_)
      rw [if_pos (by rfl)]
      have hco := hCO.out
      (with_reducible refine s_ch NC _ _ ch (.slice av np ac) rfl hcr ?_ ?_ ?_)
      · exact rfl
      · exact congrArg Value.agg (HCH.out _)
      intro V5 hnew ho
      have hH2 : Hid (True) := hide trivial
      replace hr := hr.only ho (by omega)
      replace hq := hq.only ho (by omega)
      replace hL := own_only hL ho (fun e => absurd (own_ty hL e hcr) (by decide))
      replace hM := hM.only ho hCN
      replace hA := hA.onlyR ho (by omega)
      replace hW := hW.only ho (by omega) (by omega)
      replace hS := (show w.heap.size + 2 ≤ V5.heap.size by rw [ho.size]; exact hS)
      replace hB := (show B ≤ V5.heap.size by rw [ho.size]; exact hB)
      replace hcr := hnew
      clear hHeld ho hnew hY hco
      refine hK.out _ _ ?_ (fun hHeld => ?_)
      · exact hH2.out
      clear hK K
      clear hH2
      refine wpAnyH_done (by kernel_rfl) ?_ _
      clear hHeld
      have hCO2 := hCO.out
      go_wp2_with (first | ((with_reducible refine ld_ch NC ch _ hcr ?_ ?_ ?_); exact rfl; exact rfl) | (go_at_call 74; (with_reducible refine (HMv.out _ _).mono ?_); rintro e W ⟨rfl, hbc⟩; replace hM := hM.bl hbc; replace hW := hW.bl hbc hB; replace hA := hA.bl hbc; replace hB := Nat.le_trans hB hbc.size; replace hS := Nat.le_trans hS hbc.size; replace hr := hr.bl hbc; replace hq := hq.bl hbc; replace hcr := hcr.bl hbc; replace hL := own_bel hL hbc; clear hbc) | (go_at_call 75; (with_reducible refine (HFt.out _ _).mono ?_); rintro e W ⟨rfl, hbc⟩; replace hM := hM.bl hbc; replace hW := hW.bl hbc hB; replace hA := hA.bl hbc; replace hB := Nat.le_trans hB hbc.size; replace hS := Nat.le_trans hS hbc.size; replace hr := hr.bl hbc; replace hq := hq.bl hbc; replace hcr := hcr.bl hbc; replace hL := own_bel hL hbc; clear hbc) | ((with_reducible refine st_ch (w.heap.size + 1) _ _ ch (.slice av np ac) rfl hq ?_ ?_ ?_); exact rfl; exact rfl; intro W hnew ho; replace hL := own_only hL ho (fun e => absurd (hL.lt _ e).1 (by omega)); replace hr := hr.only ho (by omega); replace hM := hM.only ho (hF.at 1 (by omega)); replace hA := hA.onlyR ho (by omega); replace hW := hW.only ho (by omega) (by omega); replace hS := (show w.heap.size + 2 ≤ W.heap.size by rw [ho.size]; exact hS); replace hB := (show B ≤ W.heap.size by rw [ho.size]; exact hB); replace hq := hnew; clear hnew ho))
      refine bodyPost_ret (results_cell_u Tryz.results33 _ _ (w.heap.size + 1) _ _ _ rfl hq Tryz.underlying110 rfl size_ch) rfl ?_
      exact ⟨_, rfl, _, hM, hW, own_lower2 hL (by omega), fun g e => hLn g e⟩
    case b56 =>
      obtain ⟨NC, hNC0⟩ : ∃ n, V2.heap.size = n := ⟨_, rfl⟩
      rw [if_pos (by rfl)]
      (with_reducible refine s_alc NC hNC0 (zeroCh.c nilS) zero_ch ?_)
      intro V4 hcr hb' hz4
      have hbc := hNC0 ▸ hb'
      have hCO : Hid (w.heap.size + 2 ≤ NC) := hide (hNC0 ▸ hS)
      have hNC : NC < V4.heap.size := hcr.lt
      have hCF : ∀ (O' : Nat → Prop), (∀ x, O' x → x < NC) → ¬ O' NC := fun O' h k => absurd (h NC k) (Nat.lt_irrefl _)
      have hCN := hCF _ (fun x k => hNC0 ▸ hM.lt x k)
      have hH2 : Hid (True) := hide trivial
      replace hM := hM.bl hbc
      replace hW := hW.bl hbc hB
      replace hA := hA.bl hbc
      replace hB := Nat.le_trans hB hbc.size
      replace hS := Nat.le_trans hS hbc.size
      replace hr := hr.bl hbc
      replace hq := hq.bl hbc
      replace hL := own_bel hL hbc
      replace hY := own_bel hY hbc
      clear hHeld hbc hb' hz4 hNC0 hCF
      refine hK.out _ _ ?_ (fun hHeld => ?_)
      · exact hH2.out
      clear hK K
      clear hH2
      refine skO 6 (by simp only [gT, gZ, gS]; rfl) (fun K hK => ?_)
      rw [if_pos (by rfl)]
      go_simp
      (with_reducible refine (HN2.out _ _ _ _ _ hY).mono ?_)
      rintro e V3 ⟨rfl, hbc⟩
      have hH2 : Hid (True) := hide trivial
      replace hM := hM.bl hbc
      replace hW := hW.bl hbc hB
      replace hA := hA.bl hbc
      replace hB := Nat.le_trans hB hbc.size
      replace hS := Nat.le_trans hS hbc.size
      replace hr := hr.bl hbc
      replace hq := hq.bl hbc
      replace hL := own_bel hL hbc
      replace hY := own_bel hY hbc
      (try replace hcr := hcr.bl hbc)
      (try replace hNC := Nat.lt_of_lt_of_le hNC hbc.size)
      clear hHeld hbc
      go_simp
      refine hK.out _ _ ?_ (fun hHeld => ?_)
      · exact hH2.out
      clear hK K
      clear hH2
      refine tkO 10 (.agg #[.int .i64 hd, .int .u64 (k1 : Nat), .int .u64 (k2 : Nat), .slice av np ac, .int .i64 rt, .int .i64 wt]) (by simp only [gT, gZ, gS]; rfl) (puO (by (intro w hSw; (try dsimp only at hSw); go_simp))) ?_
      simp only [Act.put, pA, pZ, pS]
      refine skO 12 (by simp only [gT, gZ, gS]; rfl) (fun K hK => ?_)
      rw [if_pos (by rfl)]
      have hco := hCO.out
      (with_reducible refine s_ch NC _ _ ch (.slice av np ac) rfl hcr ?_ ?_ ?_)
      · exact rfl
      · exact congrArg Value.agg (HCH.out _)
      intro V5 hnew ho
      have hH2 : Hid (True) := hide trivial
      replace hr := hr.only ho (by omega)
      replace hq := hq.only ho (by omega)
      replace hL := own_only hL ho (fun e => absurd (own_ty hL e hcr) (by decide))
      replace hM := hM.only ho hCN
      replace hA := hA.onlyR ho (by omega)
      replace hW := hW.only ho (by omega) (by omega)
      replace hS := (show w.heap.size + 2 ≤ V5.heap.size by rw [ho.size]; exact hS)
      replace hB := (show B ≤ V5.heap.size by rw [ho.size]; exact hB)
      replace hcr := hnew
      clear hHeld ho hnew hY hco
      refine hK.out _ _ ?_ (fun hHeld => ?_)
      · exact hH2.out
      clear hK K
      clear hH2
      refine wpAnyH_done (by kernel_rfl) ?_ _
      clear hHeld
      have hCO2 := hCO.out
      go_wp2_with (first | ((with_reducible refine ld_ch NC ch _ hcr ?_ ?_ ?_); exact rfl; exact rfl) | (go_at_call 74; (with_reducible refine (HMv.out _ _).mono ?_); rintro e W ⟨rfl, hbc⟩; replace hM := hM.bl hbc; replace hW := hW.bl hbc hB; replace hA := hA.bl hbc; replace hB := Nat.le_trans hB hbc.size; replace hS := Nat.le_trans hS hbc.size; replace hr := hr.bl hbc; replace hq := hq.bl hbc; replace hcr := hcr.bl hbc; replace hL := own_bel hL hbc; clear hbc) | (go_at_call 75; (with_reducible refine (HFt.out _ _).mono ?_); rintro e W ⟨rfl, hbc⟩; replace hM := hM.bl hbc; replace hW := hW.bl hbc hB; replace hA := hA.bl hbc; replace hB := Nat.le_trans hB hbc.size; replace hS := Nat.le_trans hS hbc.size; replace hr := hr.bl hbc; replace hq := hq.bl hbc; replace hcr := hcr.bl hbc; replace hL := own_bel hL hbc; clear hbc) | ((with_reducible refine st_ch (w.heap.size + 1) _ _ ch (.slice av np ac) rfl hq ?_ ?_ ?_); exact rfl; exact rfl; intro W hnew ho; replace hL := own_only hL ho (fun e => absurd (hL.lt _ e).1 (by omega)); replace hr := hr.only ho (by omega); replace hM := hM.only ho (hF.at 1 (by omega)); replace hA := hA.onlyR ho (by omega); replace hW := hW.only ho (by omega) (by omega); replace hS := (show w.heap.size + 2 ≤ W.heap.size by rw [ho.size]; exact hS); replace hB := (show B ≤ W.heap.size by rw [ho.size]; exact hB); replace hq := hnew; clear hnew ho))
      refine bodyPost_ret (results_cell_u Tryz.results33 _ _ (w.heap.size + 1) _ _ _ rfl hq Tryz.underlying110 rfl size_ch) rfl ?_
      exact ⟨_, rfl, _, hM, hW, own_lower2 hL (by omega), fun g e => hLn g e⟩
  case b54 =>
    obtain ⟨NC, hNC0⟩ : ∃ n, V.heap.size = n := ⟨_, rfl⟩
    rw [if_pos (by rfl)]
    (with_reducible refine s_alc NC hNC0 (zeroCh.c nilS) zero_ch ?_)
    intro V4 hcr hb' hz4
    have hbc := hNC0 ▸ hb'
    have hCO : Hid (w.heap.size + 2 ≤ NC) := hide (hNC0 ▸ hS)
    have hNC : NC < V4.heap.size := hcr.lt
    have hCF : ∀ (O' : Nat → Prop), (∀ x, O' x → x < NC) → ¬ O' NC := fun O' h k => absurd (h NC k) (Nat.lt_irrefl _)
    have hCN := hCF _ (fun x k => hNC0 ▸ hM.lt x k)
    have hH2 : Hid (True) := hide trivial
    replace hM := hM.bl hbc
    replace hW := hW.bl hbc hB
    replace hA := hA.bl hbc
    replace hB := Nat.le_trans hB hbc.size
    replace hS := Nat.le_trans hS hbc.size
    replace hr := hr.bl hbc
    replace hq := hq.bl hbc
    replace hL := own_bel hL hbc
    replace hY := own_bel hY hbc
    clear hHeld hbc hb' hz4 hNC0 hCF
    refine hK.out _ _ ?_ (fun hHeld => ?_)
    · exact hH2.out
    clear hK K
    clear hH2
    refine skO 3 (by simp only [gT, gZ, gS]; rfl) (fun K hK => ?_)
    rw [if_pos (by rfl)]
    go_simp
    (with_reducible refine (HN1.out _ _ _ _ hY).mono ?_)
    rintro e V2 ⟨rfl, hbc⟩
    have hH2 : Hid (True) := hide trivial
    replace hM := hM.bl hbc
    replace hW := hW.bl hbc hB
    replace hA := hA.bl hbc
    replace hB := Nat.le_trans hB hbc.size
    replace hS := Nat.le_trans hS hbc.size
    replace hr := hr.bl hbc
    replace hq := hq.bl hbc
    replace hL := own_bel hL hbc
    replace hY := own_bel hY hbc
    (try replace hcr := hcr.bl hbc)
    (try replace hNC := Nat.lt_of_lt_of_le hNC hbc.size)
    clear hHeld hbc
    go_simp
    refine hK.out _ _ ?_ (fun hHeld => ?_)
    · exact hH2.out
    clear hK K
    clear hH2
    refine skO 6 (by simp only [gT, gZ, gS]; rfl) (fun K hK => ?_)
    rw [if_pos (by rfl)]
    go_simp
    (with_reducible refine (HN2.out _ _ _ _ _ hY).mono ?_)
    rintro e V3 ⟨rfl, hbc⟩
    have hH2 : Hid (True) := hide trivial
    replace hM := hM.bl hbc
    replace hW := hW.bl hbc hB
    replace hA := hA.bl hbc
    replace hB := Nat.le_trans hB hbc.size
    replace hS := Nat.le_trans hS hbc.size
    replace hr := hr.bl hbc
    replace hq := hq.bl hbc
    replace hL := own_bel hL hbc
    replace hY := own_bel hY hbc
    (try replace hcr := hcr.bl hbc)
    (try replace hNC := Nat.lt_of_lt_of_le hNC hbc.size)
    clear hHeld hbc
    go_simp
    refine hK.out _ _ ?_ (fun hHeld => ?_)
    · exact hH2.out
    clear hK K
    clear hH2
    refine tkO 10 (.agg #[.int .i64 hd, .int .u64 (k1 : Nat), .int .u64 (k2 : Nat), .slice av np ac, .int .i64 rt, .int .i64 wt]) (by simp only [gT, gZ, gS]; rfl) (puO (by (intro w hSw; (try dsimp only at hSw); go_simp))) ?_
    simp only [Act.put, pA, pZ, pS]
    refine skO 12 (by simp only [gT, gZ, gS]; rfl) (fun K hK => ?_)
    rw [if_pos (by rfl)]
    have hco := hCO.out
    (with_reducible refine s_ch NC _ _ ch (.slice av np ac) rfl hcr ?_ ?_ ?_)
    · exact rfl
    · exact congrArg Value.agg (HCH.out _)
    intro V5 hnew ho
    have hH2 : Hid (True) := hide trivial
    replace hr := hr.only ho (by omega)
    replace hq := hq.only ho (by omega)
    replace hL := own_only hL ho (fun e => absurd (own_ty hL e hcr) (by decide))
    replace hM := hM.only ho hCN
    replace hA := hA.onlyR ho (by omega)
    replace hW := hW.only ho (by omega) (by omega)
    replace hS := (show w.heap.size + 2 ≤ V5.heap.size by rw [ho.size]; exact hS)
    replace hB := (show B ≤ V5.heap.size by rw [ho.size]; exact hB)
    replace hcr := hnew
    clear hHeld ho hnew hY hco
    refine hK.out _ _ ?_ (fun hHeld => ?_)
    · exact hH2.out
    clear hK K
    clear hH2
    refine wpAnyH_done (by kernel_rfl) ?_ _
    clear hHeld
    have hCO2 := hCO.out
    go_wp2_with (first | ((with_reducible refine ld_ch NC ch _ hcr ?_ ?_ ?_); exact rfl; exact rfl) | (go_at_call 74; (with_reducible refine (HMv.out _ _).mono ?_); rintro e W ⟨rfl, hbc⟩; replace hM := hM.bl hbc; replace hW := hW.bl hbc hB; replace hA := hA.bl hbc; replace hB := Nat.le_trans hB hbc.size; replace hS := Nat.le_trans hS hbc.size; replace hr := hr.bl hbc; replace hq := hq.bl hbc; replace hcr := hcr.bl hbc; replace hL := own_bel hL hbc; clear hbc) | (go_at_call 75; (with_reducible refine (HFt.out _ _).mono ?_); rintro e W ⟨rfl, hbc⟩; replace hM := hM.bl hbc; replace hW := hW.bl hbc hB; replace hA := hA.bl hbc; replace hB := Nat.le_trans hB hbc.size; replace hS := Nat.le_trans hS hbc.size; replace hr := hr.bl hbc; replace hq := hq.bl hbc; replace hcr := hcr.bl hbc; replace hL := own_bel hL hbc; clear hbc) | ((with_reducible refine st_ch (w.heap.size + 1) _ _ ch (.slice av np ac) rfl hq ?_ ?_ ?_); exact rfl; exact rfl; intro W hnew ho; replace hL := own_only hL ho (fun e => absurd (hL.lt _ e).1 (by omega)); replace hr := hr.only ho (by omega); replace hM := hM.only ho (hF.at 1 (by omega)); replace hA := hA.onlyR ho (by omega); replace hW := hW.only ho (by omega) (by omega); replace hS := (show w.heap.size + 2 ≤ W.heap.size by rw [ho.size]; exact hS); replace hB := (show B ≤ W.heap.size by rw [ho.size]; exact hB); replace hq := hnew; clear hnew ho))
    refine bodyPost_ret (results_cell_u Tryz.results33 _ _ (w.heap.size + 1) _ _ _ rfl hq Tryz.underlying110 rfl size_ch) rfl ?_
    exact ⟨_, rfl, _, hM, hW, own_lower2 hL (by omega), fun g e => hLn g e⟩
end Go.Proofs.YtaaiockiojejeaaGreatDoor
