/-
  What blk's tell does.
-/
import Derived.Test.YtaaiockiojejeaaGreatDoorJH11
import Derived.Test.YtaaiockiojejeaaGreatDoorJH28
import Derived.Test.YtaaiockiojejeaaGreatDoorJH31
namespace Go.Proofs.YtaaiockiojejeaaGreatDoor
open Go.RowKit
set_option linter.unusedVariables false
set_option linter.unusedSimpArgs false

theorem oneB_ok {s g : Sg} (h : s.Ok) (hn : 0 < s.n) (hg : g ∈ oneB s) : g.Ok := by
  unfold oneB at hg
  split at hg
  · rename_i hq
    rw [List.mem_singleton.1 hg]
    have := h.at'
    exact ⟨by show s.at' + s.n.toNat - 1 < _; omega, by show (_ : Int) ≤ 1; decide, by show (1 : Int) ≤ _; decide⟩
  · cases hg
theorem lasB_ok {l : List Sg} (h : ∀ s ∈ l, s.Ok) : (∀ g ∈ lasB l, g.Ok) ∧ (lasB l).length ≤ 1 := by
  rw [lasB_eq]
  cases hf : l.reverse.find? wrS with
  | none => exact ⟨fun g hg => (by cases hg), Nat.zero_le _⟩
  | some s =>
    have hm := List.mem_reverse.1 (List.mem_of_find?_eq_some hf)
    have hw := List.find?_some hf
    simp only [wrS, Bool.and_eq_true, decide_eq_true_eq] at hw
    refine ⟨fun g hg => oneB_ok (h s hm) hw.2 hg, ?_⟩
    show (oneB s).length ≤ 1
    unfold oneB; split <;> simp
set_option maxHeartbeats 2000000 in
theorem tell_any (s : Bk) (ok : s.p.Ok) (v : Value) (hv : v.oneCell' = true) (hd : Int) (l : List Sg) (hl : l.length ≤ 1000) (hl0 : 0 < l.length) (hw : ∀ g ∈ l, g.Ok) {lv : Value} {Bl : Nat} (st : Nat) (hst : st < 256) {w : World} {B b p c : Nat} {f : Nat → Nat} {O : Nat → Prop} (h : RamB w B b p f c O) (hA : AreasAt w) (hG : 2 < B) (hL : w.ownsRow Bl 103 3 lv l.length (segL l)) (hc9 : c ≤ 700000000) :
    Calls Tryz.prog 50 #[.agg (s.c v), .pointer (some ⟨b, 0, none⟩), .int .i64 hd, lv, .int .u8 (st : Nat)] w fun e w' => e = .returned (.agg ((telV p f s hd l st).2.c v)) ∧ ∃ O', RamB w' B b p (telV p f s hd l st).1 (c + 4) O' ∧ Went B O O' w w' := by
  obtain ⟨lk1, lk2⟩ := lasB_ok hw
  have HLa : Hid (∀ W, W.ownsRow Bl 103 3 lv l.length (segL l) → Calls Tryz.prog 92 #[lv] W fun e w' => ∃ v', e = .returned v' ∧ w'.ownsRow W.heap.size 103 3 v' (lasB l).length (segL (lasB l)) ∧ Below W.heap.size W w') := hide (fun W hL => last_any l hw hl hl0 hL)
  have HAn : Hid (∀ W lv2 Bl2 NB, RamB W B b p f c O → AreasAt W → W.ownsRow Bl2 103 3 lv2 (lasB l).length (segL (lasB l)) → RowAt W NB #[.int .u8 (st : Nat)] 5 → ¬ O NB → Calls Tryz.prog 51 #[.agg (s.c v), .pointer (some ⟨b, 0, none⟩), .int .i64 hd, lv2, .slice (some ⟨NB, 0, none⟩) 1 1] W fun e w' => e = .returned (.agg ((telV p f s hd l st).2.c v)) ∧ ∃ O', RamB w' B b p (telV p f s hd l st).1 (c + 4) O' ∧ Went B O O' W w') := hide (fun W lv2 Bl2 NB hM hA hL hr hn => (answer_any s ok v hv hd (lasB l) (by omega) lk1 [st] 1 (some ⟨NB, 0, none⟩) hM hA hG hL ⟨fun _ => ⟨NB, 0, rfl, hr.lt, hn, fun j hj => by (obtain rfl : j = 0 := by simpa using hj); exact hr.cell 0⟩, fun y hy => by rw [List.mem_singleton.1 hy]; exact hst⟩ (by simp) (by decide) (by show 1 < 4294967296; decide) (by omega)).mono (by
    rintro e w' ⟨rfl, O', h1, h2⟩
    exact ⟨rfl, O', h1.more (by omega), h2⟩))
  generalize telV p f s hd l st = tv at *
  obtain ⟨f2, s2⟩ := tv
  generalize lasB l = lb at *
  clear lk1 lk2 hw
  have hB0 := h.base
  have hGw : 2 < w.heap.size := Nat.lt_of_lt_of_le hG hB0
  have hA0 := hA
  clear hA
  go_enter Tryz.func50, Tryz.ntmps50
  go_wp2_with (first | ((with_reducible refine bx_bk w.heap.size s v ?_ ?_ ?_); exact rfl; exact rfl; intro W hr hb hz) | ((with_reducible refine al_bk (w.heap.size + 1) ?_ ?_); exact hz.out; intro W hq hb' hz'; replace hr := hr.bl (hz.out ▸ hb'); replace hb := hb.trans (hb'.mono (by omega)); replace hz := hz'; have hM := h.bl hb; have hW := Went.of (O := O) hb hB0; have hA := hA0.bl hb; have hF := h.far 2; have hS : w.heap.size + 2 ≤ W.heap.size := Nat.le_of_eq hz.out.symm; have hB : B ≤ W.heap.size := Nat.le_trans hB0 hb.size; replace hL := own_bel hL hb; clear hb hz hb' hz'))
  refine wp_region_held_drew (S := (fun V => RowAt V w.heap.size (s.c v) 53)) (by kernel_rfl) ?_ (fun hHeld => ?_)
  · exact hr.dr
  replace hM := hM.dr
  replace hW := hW.dr
  replace hA := hA.drR
  replace hS : w.heap.size + 2 ≤ (World.drew _).heap.size := hS
  replace hB : B ≤ (World.drew _).heap.size := hB
  replace hq := hq.dr
  replace hL := own_dr hL
  generalize World.drew _ = V at hHeld hM hW hA hS hB hq hL ⊢
  clear hr
  refine tkO 0 (.agg (s.c v)) (by simp only [gT, gZ]; rfl) (y_bk w.heap.size s v (fun V hV => hV) rfl rfl) ?_
  simp only [Act.put, pA, pZ, pS]
  refine tkO 1 (.pointer (some ⟨b, 0, none⟩)) (by simp only [gT, gZ, gS]; rfl) (puO (by (intro w hSw; (try dsimp only at hSw); go_simp))) ?_
  simp only [Act.put, pA, pZ, pS]
  refine tkO 2 (.int .i64 hd) (by simp only [gT, gZ, gS]; rfl) (puO (by (intro w hSw; (try dsimp only at hSw); go_simp))) ?_
  simp only [Act.put, pA, pZ, pS]
  refine tkO 3 lv (by simp only [gT, gZ, gS]; rfl) (puO (by (intro w hSw; (try dsimp only at hSw); go_simp))) ?_
  simp only [Act.put, pA, pZ, pS]
  refine tkO 5 (.int .u8 (st : Nat)) (by simp only [gT, gZ, gS]; rfl) (puO (by (intro w hSw; (try dsimp only at hSw); go_simp))) ?_
  simp only [Act.put, pA, pZ, pS]
  refine wpAnyH_ready (rs := [4, 6]) (by kernel_rfl) (by simp) ?_
  refine AllReadyH.cons (o := ?oi6) ?hi6 (fun K hK => ?b6) (AllReadyH.cons (o := ?oi7) ?hi7 (fun K hK => ?b7) AllReadyH.nil)
  case hi6 => (simp only [List.getElem?_toArray, List.getElem?_cons_zero, List.getElem?_cons_succ]; rfl)
  case hi7 => (simp only [List.getElem?_toArray, List.getElem?_cons_zero, List.getElem?_cons_succ]; rfl)
  case b6 =>
    rw [if_pos (by rfl)]
    go_simp
    (with_reducible refine (HLa.out _ hL).mono ?_)
    rintro e V2 ⟨lv2, rfl, hlv, hbc⟩
    have hH2 := hide (hHeld.bl hbc)
    replace hM := hM.bl hbc
    replace hW := hW.bl hbc hB
    replace hA := hA.bl hbc
    replace hB := Nat.le_trans hB hbc.size
    replace hS := Nat.le_trans hS hbc.size
    replace hq := hq.bl hbc
    replace hL := own_bel hL hbc
    (try replace hby := hby.bl hbc)
    clear hHeld hbc
    go_simp
    refine hK.out _ _ ?_ (fun hHeld => ?_)
    · exact hH2.out
    clear hK K
    clear hH2
    refine skO 6 (by simp only [gT, gZ, gS]; rfl) (fun K hK => ?_)
    rw [if_pos (by rfl)]
    (with_reducible refine s_bsr 37 5 1 Tryz.underlying37 #[.int .u8 (st : Nat)] V2.heap.size ?_ [(0, .int .u8 (st : Nat))] ?_ (bs_byte st) ?_)
    · exact rfl
    · first | rfl | (simp; done) | kernel_rfl
    intro V3 hby hbc hz3
    have hbn : ¬ O V2.heap.size := fun e => absurd (hM.lt _ e) (by omega)
    have hH2 := hide (hHeld.bl hbc)
    replace hM := hM.bl hbc
    replace hW := hW.bl hbc hB
    replace hA := hA.bl hbc
    replace hB := Nat.le_trans hB hbc.size
    replace hS := Nat.le_trans hS hbc.size
    replace hq := hq.bl hbc
    replace hL := own_bel hL hbc
    (try replace hlv := own_bel hlv hbc)
    clear hHeld hbc hz3
    refine hK.out _ _ ?_ (fun hHeld => ?_)
    · exact hH2.out
    clear hK K
    clear hH2
    refine skO 7 (by simp only [gT, gZ, gS]; rfl) (fun K hK => ?_)
    rw [if_pos (by rfl)]
    go_simp
    (with_reducible refine (HAn.out _ _ _ _ hM hA hlv hby hbn).mono ?_)
    rintro e V4 ⟨rfl, O2, hM2, hW2⟩
    have hH2 := hide (hW2.row hHeld (hF.at 0 (by omega)))
    replace hq := hW2.row hq (hF.at 1 (by omega))
    replace hA := hA.wentR hG hW2
    replace hF := hF.went hW2 hS
    replace hS := Nat.le_trans hS hW2.size
    replace hW := hW.trans hW2
    replace hB := Nat.le_trans hB hW2.size
    clear hM hW2 hHeld hL hlv hby hbn
    go_simp
    refine hK.out _ _ ?_ (fun hHeld => ?_)
    · exact hH2.out
    clear hK K
    clear hH2
    refine skO 8 (by simp only [gT, gZ, gS]; rfl) (fun K hK => ?_)
    rw [if_pos (by rfl)]
    (with_reducible refine s_bk (w.heap.size + 1) _ _ s2 v hv hq ?_ ?_ ?_)
    · exact rfl
    · exact rfl
    intro V5 hnew ho
    have hH2 := hide (hHeld.only ho (by omega))
    replace hM2 := hM2.only ho (hF.at 1 (by omega))
    replace hW := hW.only ho (by omega) (by omega)
    clear hHeld ho hq
    refine hK.out _ _ ?_ (fun hHeld => ?_)
    · exact hH2.out
    clear hK K
    clear hH2
    refine wpAnyH_done (by kernel_rfl) ?_ _
    go_simp
    go_wp2
    refine bodyPost_ret (results_cell_row Tryz.results50 _ _ (w.heap.size + 1) _ _ _ _ rfl hnew Tryz.underlying53 rfl size_bk) rfl ?_
    exact ⟨rfl, _, hM2, hW⟩
  case b7 =>
    rw [if_pos (by rfl)]
    (with_reducible refine s_bsr 37 5 1 Tryz.underlying37 #[.int .u8 (st : Nat)] V.heap.size ?_ [(0, .int .u8 (st : Nat))] ?_ (bs_byte st) ?_)
    · exact rfl
    · first | rfl | (simp; done) | kernel_rfl
    intro V3 hby hbc hz3
    have hbn : ¬ O V.heap.size := fun e => absurd (hM.lt _ e) (by omega)
    have hH2 := hide (hHeld.bl hbc)
    replace hM := hM.bl hbc
    replace hW := hW.bl hbc hB
    replace hA := hA.bl hbc
    replace hB := Nat.le_trans hB hbc.size
    replace hS := Nat.le_trans hS hbc.size
    replace hq := hq.bl hbc
    replace hL := own_bel hL hbc
    (try replace hlv := own_bel hlv hbc)
    clear hHeld hbc hz3
    refine hK.out _ _ ?_ (fun hHeld => ?_)
    · exact hH2.out
    clear hK K
    clear hH2
    refine skO 4 (by simp only [gT, gZ, gS]; rfl) (fun K hK => ?_)
    rw [if_pos (by rfl)]
    go_simp
    (with_reducible refine (HLa.out _ hL).mono ?_)
    rintro e V2 ⟨lv2, rfl, hlv, hbc⟩
    have hH2 := hide (hHeld.bl hbc)
    replace hM := hM.bl hbc
    replace hW := hW.bl hbc hB
    replace hA := hA.bl hbc
    replace hB := Nat.le_trans hB hbc.size
    replace hS := Nat.le_trans hS hbc.size
    replace hq := hq.bl hbc
    replace hL := own_bel hL hbc
    (try replace hby := hby.bl hbc)
    clear hHeld hbc
    go_simp
    refine hK.out _ _ ?_ (fun hHeld => ?_)
    · exact hH2.out
    clear hK K
    clear hH2
    refine skO 7 (by simp only [gT, gZ, gS]; rfl) (fun K hK => ?_)
    rw [if_pos (by rfl)]
    go_simp
    (with_reducible refine (HAn.out _ _ _ _ hM hA hlv hby hbn).mono ?_)
    rintro e V4 ⟨rfl, O2, hM2, hW2⟩
    have hH2 := hide (hW2.row hHeld (hF.at 0 (by omega)))
    replace hq := hW2.row hq (hF.at 1 (by omega))
    replace hA := hA.wentR hG hW2
    replace hF := hF.went hW2 hS
    replace hS := Nat.le_trans hS hW2.size
    replace hW := hW.trans hW2
    replace hB := Nat.le_trans hB hW2.size
    clear hM hW2 hHeld hL hlv hby hbn
    go_simp
    refine hK.out _ _ ?_ (fun hHeld => ?_)
    · exact hH2.out
    clear hK K
    clear hH2
    refine skO 8 (by simp only [gT, gZ, gS]; rfl) (fun K hK => ?_)
    rw [if_pos (by rfl)]
    (with_reducible refine s_bk (w.heap.size + 1) _ _ s2 v hv hq ?_ ?_ ?_)
    · exact rfl
    · exact rfl
    intro V5 hnew ho
    have hH2 := hide (hHeld.only ho (by omega))
    replace hM2 := hM2.only ho (hF.at 1 (by omega))
    replace hW := hW.only ho (by omega) (by omega)
    clear hHeld ho hq
    refine hK.out _ _ ?_ (fun hHeld => ?_)
    · exact hH2.out
    clear hK K
    clear hH2
    refine wpAnyH_done (by kernel_rfl) ?_ _
    go_simp
    go_wp2
    refine bodyPost_ret (results_cell_row Tryz.results50 _ _ (w.heap.size + 1) _ _ _ _ rfl hnew Tryz.underlying53 rfl size_bk) rfl ?_
    exact ⟨rfl, _, hM2, hW⟩
end Go.Proofs.YtaaiockiojejeaaGreatDoor
