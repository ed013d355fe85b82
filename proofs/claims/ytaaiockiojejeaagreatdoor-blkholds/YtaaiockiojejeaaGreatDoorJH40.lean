/-
  What stays so of a disk that works, whatever stands in memory. Plain.
-/
import Derived.Test.YtaaiockiojejeaaGreatDoorJH11
import Derived.Test.YtaaiockiojejeaaGreatDoorJH39
import Derived.Test.YtaaiockiojejeaaGreatDoorJH38
import Derived.Test.YtaaiockiojejeaaGreatDoorJH26
namespace Go.Proofs.YtaaiockiojejeaaGreatDoor
open Go.RowKit
set_option linter.unusedVariables false
set_option linter.unusedSimpArgs false

theorem InAt.dr {w : World} {B : Nat} {O : Nat → Prop} {v : Value} {l : List (Rq × Value)} (h : InAt w B O v l) : InAt w.drew B O v l := ⟨own_dr h.row, fun x hx => own_dr (h.own x hx), h.far, h.fars⟩
theorem InAt.growU {w W : World} {B : Nat} {O : Nat → Prop} {v av : Value} {l : List (Rq × Value)} (h : InAt w B O v l) (hg : w.grownBy W av.ownBlock) (hr : ∀ g, av.ownBlock = some g → ∃ cs, RowAt w g cs 5) : InAt W B O v l :=
  ⟨own_grow (cs := #[]) h.row hg hr (by decide), fun x hx => own_grow (cs := #[]) (h.own x hx) hg hr (by decide), h.far, h.fars⟩
theorem own_rowT {w : World} {B e sz n : Nat} {v : Value} {xs : List Value} (h : w.ownsRow B e sz v n xs) : ∀ g, v.ownBlock = some g → ∃ cs, RowAt w g cs e := fun g hg => by
  rcases h.2 with ⟨h1, _⟩ | ⟨g', cap, cur, h1, _, h3, _⟩
  · rw [h1] at hg; cases hg
  · rw [h1] at hg; cases hg; exact ⟨cur, h3⟩
theorem bytesO_own {W : World} {B : Nat} {O : Nat → Prop} {v : Value} {l : List Nat} {n : Nat} (h : W.ownsRow B 5 1 v n (byteV l)) (hl : l.length = n) (hn : ∀ g, v.ownBlock = some g → ¬ O g) (hs : ∀ y ∈ l, y < 256) : ∃ a cap, v = .slice a n cap ∧ n ≤ cap ∧ cap ≤ 9223372036854775807 ∧ BytesO W O a l := by
  subst hl
  rcases Nat.eq_zero_or_pos l.length with e | e
  · obtain ⟨a, c, rfl, h1, h2⟩ := own_form h
    exact ⟨a, c, rfl, h1, by unfold maxLen at h2; omega, fun k => absurd k (by omega), hs⟩
  · obtain ⟨g, cap, rfl, h1, h2, h3, h4, h5⟩ := own_pos h e
    exact ⟨_, cap, rfl, h1, by unfold maxLen at h2; omega, fun _ => ⟨g, 0, rfl, h4, hn g rfl, fun j hj => by rw [Nat.zero_add]; exact h5 j _ (by simp [byteV, hj])⟩, hs⟩
set_option maxRecDepth 20000 in
set_option maxHeartbeats 8000000 in
theorem finish_read (s : Bk) (ok : s.Ok) (l : List (Rq × Value)) (hsl : l.map (·.1) = s.l) (hl8 : l.length ≤ 90) (v : Value) (id : Nat) {Bi : Nat} {w : World} {B b p c : Nat} {f : Nat → Nat} {O : Nat → Prop} (h : RamB w B b p f c O) (hA : AreasAt w) (hG : 2 < B) (hI : InAt w Bi O v l) (hc9 : c ≤ 600000000) (k : Nat) (q : Rq) (qv : Value) (hz0 : idxQ s.l id = (k : Nat)) (hkq : l[k]? = some (q, qv)) (hql : 0 < q.l.length) (da : Option Addr) (dn dc : Nat) {Bd : Nat} (bl : List Nat) (hbl : bl.length = dn) (hby : ∀ y ∈ bl, y < 256) (hD : w.ownsRow Bd 5 1 (.slice da dn dc) dn (byteV bl)) (hqw : q.wr = false) (hdn : q.n = (dn : Nat)) (hd9 : dn ≤ 2000000) : Calls Tryz.prog 17 #[.agg (s.c v), .pointer (some ⟨b, 0, none⟩), .int .u32 (id : Nat), .bool true, .slice da dn dc] w fun e w' => ∃ v', e = .returned (.tuple #[.agg ((ansV p f s q.hd q.l (bl ++ [0])).2.c v'), .nilIface]) ∧ ∃ l' O', l'.map (·.1) = s.l.eraseIdx k ∧ RamB w' B b p (ansV p f s q.hd q.l (bl ++ [0])).1 (c + q.l.length + 3) O' ∧ Went B O O' w w' ∧ InAt w' w.heap.size O' v' l' := by
  have HFd : Hid (∀ W, Below w.heap.size w W → Calls Tryz.prog 47 #[v, .int .u32 (id : Nat)] W fun e w' => e = .returned (.int .i64 (k : Nat)) ∧ Below W.heap.size W w') := hide (fun W hb => by
    have := bfind_any l (by omega) id (hI.bl hb).row
    rwa [hsl, hz0] at this)
  have HC : Hid (∀ W, Below w.heap.size w W → Calls Tryz.prog 29 #[.agg (s.c v)] W fun e w' => ∃ v', e = .returned (.agg (s.c v')) ∧ ∃ l', l'.map (·.1) = l.map (·.1) ∧ InAt w' W.heap.size (fun _ => False) v' l' ∧ Below W.heap.size W w') := hide (fun W hb => bclone_any s l (by omega) (fun x hx => (ok.l x.1 (by rw [← hsl]; exact List.mem_map_of_mem hx)).ll) (hI.bl hb))
  have hqok : q.Ok := ok.l q (by rw [← hsl]; exact List.mem_map.2 ⟨_, List.mem_of_getElem? hkq, rfl⟩)
  have hkl : k < l.length := (List.getElem?_eq_some_iff.1 hkq).1
  have hL := hI.own _ (List.mem_of_getElem? hkq)
  have hLn := hI.fars _ (List.mem_of_getElem? hkq)
  simp only at hL hLn
  have hqo : qv.oneCell' = true := own_one hL
  have HAn : Hid (∀ W O2 v3 Bl2 dv, v3.oneCell' = true → RamB W B b p f c O2 → AreasAt W → W.ownsRow Bi 103 3 qv q.l.length (segL q.l) → W.ownsRow Bl2 5 1 dv (dn + 1) (byteV (bl ++ [0])) → (∀ g, dv.ownBlock = some g → ¬ O2 g) → Calls Tryz.prog 51 #[.agg (s.c v3), .pointer (some ⟨b, 0, none⟩), .int .i64 q.hd, qv, dv] W fun e w' => e = .returned (.agg ((ansV p f s q.hd q.l (bl ++ [0])).2.c v3)) ∧ ∃ O', RamB w' B b p (ansV p f s q.hd q.l (bl ++ [0])).1 (c + q.l.length + 3) O' ∧ Went B O2 O' W w') := hide (fun W O2 v3 Bl2 dv hv hM hA hL hV hVn => by
    have hln : (bl ++ [0]).length = dn + 1 := by simp [hbl]
    obtain ⟨da2, dc2, rfl, k1, k2, k3⟩ := bytesO_own hV hln hVn (fun y hy => by
      rcases List.mem_append.1 hy with h | h
      · exact hby y h
      · rw [List.mem_singleton.1 h]; decide)
    have := answer_any s ok.p v3 hv q.hd q.l hqok.ll hqok.l (bl ++ [0]) dc2 da2 hM hA hG hL k3 (by omega) k2 (by omega) (by omega)
    rwa [hln] at this)
  obtain ⟨s3, hs3⟩ : ∃ x, (ansV p f s q.hd q.l (bl ++ [0])).2 = x := ⟨_, rfl⟩
  obtain ⟨f3, hf3⟩ : ∃ x, (ansV p f s q.hd q.l (bl ++ [0])).1 = x := ⟨_, rfl⟩
  rw [hs3, hf3] at HAn
  rw [hs3, hf3]
  have HSL := hide hsl
  obtain ⟨gv, cap, cur, rfl, hc1, hc2, _, hLr, hcs, htk⟩ := own_row hI.row (by omega)
  have HMid : Hid ((cur.extract (k * 6) (k * 6 + (q.c qv).size)).toList = (q.c qv).toList) := hide (mid_r htk hkq)
  have hgw : gv < w.heap.size := hLr.lt
  have HD : Hid (∀ W B' v1 l1, l1.map (·.1) = l.map (·.1) → InAt W B' O v1 l1 → Calls Tryz.prog 49 #[v1, .int .i64 (k : Nat), .int .i64 ((k : Int) + 1)] W fun e w' => ∃ v3 g, e = .returned v3 ∧ v1.ownBlock = some g ∧ But1 g W w' ∧ InAt w' B' O v3 (l1.eraseIdx k)) := hide (fun W B' v1 l1 hm hI1 => by
    have hlen : l1.length = l.length := by rw [← List.length_map (f := (·.1)), hm, List.length_map]
    have := del_any l1 (by omega) k (by omega) hI1.ones hI1.row
    rw [show ((k + 1 : Nat) : Int) = (k : Int) + 1 by omega] at this
    refine this.mono ?_
    rintro e w' ⟨v3, rfl, k1, k2, g, k3, k4⟩
    exact ⟨v3, g, rfl, k3, k4, hI1.del k3 k4 k1 k2⟩)
  have HLR := hide hLr
  have i1 : (k : Int) < (l.length : Int) := by omega
  have i2 : (k : Int) + 1 < 9223372036854775808 := by omega
  have t1 : decide ((k : Int) < 0) = false := by simp
  have HCl : Hid (∀ W, W.ownsRow Bd 5 1 (.slice da dn dc) dn (byteV bl) → Calls Tryz.prog 52 #[.slice da dn dc] W fun e w' => ∃ v', e = .returned v' ∧ w'.ownsRow W.heap.size 5 1 v' dn (byteV bl) ∧ Below W.heap.size W w') := hide (fun W h => clone_b dn (byteV bl) (byteV_one _) (by omega) h)
  have HAb : Hid (∀ w, Calls Tryz.prog 48 #[.agg (q.c qv)] w fun e w' => e = .returned (.int .i64 (dn : Nat)) ∧ Below w.heap.size w w') := hide (fun w => by
    have := ansbytes_any q qv w
    rwa [if_neg (by rw [hqw]; decide), hdn] at this)
  obtain ⟨ib, ib1, ib2, ib3, ib4⟩ := info_b
  have HBy := hide hby
  have HBl := hide hbl
  clear hdn hby hbl
  clear hI hsl hz0 hkq htk hcs hLr hs3 hf3
  have hB0 := h.base
  have hGw : 2 < w.heap.size := Nat.lt_of_lt_of_le hG hB0
  have hA0 := hA
  clear hA
  go_enter Tryz.func17, Tryz.ntmps17
  go_upto_region 11 with (first | ((with_reducible refine bx_bk w.heap.size s (.slice (some ⟨gv, 0, none⟩) l.length cap) ?_ ?_ ?_); exact rfl; exact rfl; intro W hr hb hz) | ((with_reducible refine al_bk (w.heap.size + 1) ?_ ?_); exact hz.out; intro W hq hb' hz'; replace hr := hr.bl (hz.out ▸ hb'); replace hb := hb.trans (hb'.mono (by omega)); replace hz := hz'; have hM := h.bl hb; have hW := Went.of (O := O) hb hB0; have hA := hA0.bl hb; have hF := h.far 2; have hS : w.heap.size + 2 ≤ W.heap.size := Nat.le_of_eq hz.out.symm; have hB : B ≤ W.heap.size := Nat.le_trans hB0 hb.size; replace hL := own_bel hL hb; replace hD := own_bel hD hb; have HB := hide hb; clear hb hz hb' hz') | ((with_reducible refine ld_bin w.heap.size s _ _ hr ?_ ?_ ?_); exact rfl; exact rfl) | (go_at_call 47; (with_reducible refine (HFd.out _ HB.out).mono ?_); rintro e W ⟨rfl, hbc⟩; (have hLr := (HLR.out.bl HB.out).bl hbc); (have HB2 := hide (HB.out.trans (hbc.mono HB.out.size))); replace hM := hM.bl hbc; replace hW := hW.bl hbc hB; replace hA := hA.bl hbc; replace hB := Nat.le_trans hB hbc.size; replace hS := Nat.le_trans hS hbc.size; replace hr := hr.bl hbc; replace hq := hq.bl hbc; replace hL := own_bel hL hbc; replace hD := own_bel hD hbc; (obtain ⟨NQ, hNQ0⟩ : ∃ n, W.heap.size = n := ⟨_, rfl⟩); (have hNQ := hide hNQ0); (have hnq : w.heap.size + 2 ≤ NQ := hNQ0 ▸ hS); (have hnO : ¬ O NQ := fun e => absurd (hM.lt NQ e) (by omega)); clear hNQ0 hbc HB) | ((with_reducible refine ld_rm gv (k * 6) q qv cur _ hLr HMid.out ?_ ?_); exact rfl) | ((with_reducible refine al_rq NQ ?_ ?_); exact hNQ.out; intro W hn hb' hz'; have hbc := hNQ.out ▸ hb'; replace HB2 := hide (HB2.out.trans (hbc.mono HB2.out.size)); replace hM := hM.bl hbc; replace hW := hW.bl hbc hB; replace hA := hA.bl hbc; replace hB := Nat.le_trans hB hbc.size; replace hS := Nat.le_trans hS hbc.size; replace hr := hr.bl hbc; replace hq := hq.bl hbc; replace hL := own_bel hL hbc; replace hD := own_bel hD hbc; clear hLr hbc hb' hz') | ((with_reducible refine st_rq NQ _ _ q qv hqo hn ?_ ?_ ?_); exact rfl; exact rfl; intro W hnew ho; replace HB2 := hide (ho.bel _ _ (by omega) HB2.out); replace hr := hr.only ho (by omega); replace hq := hq.only ho (by omega); replace hL := own_only hL ho (fun e => absurd (own_ty hL e hn) (by decide)); replace hD := own_only hD ho (fun e => absurd (own_ty hD e hn) (by decide)); replace hM := hM.only ho hnO; replace hA := hA.onlyR ho (by omega); replace hW := hW.only ho (by omega) (by omega); replace hS := (show w.heap.size + 2 ≤ W.heap.size by rw [ho.size]; exact hS); replace hB := (show B ≤ W.heap.size by rw [ho.size]; exact hB); replace hn := hnew; clear hnew ho) | ((with_reducible refine ld_rq NQ q qv hn ?_ ?_ ?_); exact rfl; exact rfl) | (go_at_call 48; (with_reducible refine (HAb.out _).mono ?_); rintro e W ⟨rfl, hbc⟩; replace HB2 := hide (HB2.out.trans (hbc.mono HB2.out.size)); replace hn := hn.bl hbc; replace hM := hM.bl hbc; replace hW := hW.bl hbc hB; replace hA := hA.bl hbc; replace hB := Nat.le_trans hB hbc.size; replace hS := Nat.le_trans hS hbc.size; replace hr := hr.bl hbc; replace hq := hq.bl hbc; replace hL := own_bel hL hbc; replace hD := own_bel hD hbc; clear hbc) | ((with_reducible refine ld_bk w.heap.size s _ hr ?_ ?_ ?_); exact rfl; exact rfl) | (go_at_call 29; (with_reducible refine (HC.out _ HB2.out).mono ?_); rintro e W3 ⟨v1, rfl, l1, q1, hI1, hbc⟩; clear HB2; (have hv1n : ∀ g, v1.ownBlock = some g → NQ < g := fun g e => Nat.lt_of_lt_of_le hn.lt (hI1.row.lt g e).1); (replace hI1 := hI1.lower hS); (replace hI1 := hI1.off (O' := O) (fun x k => Nat.lt_of_lt_of_le (h.lt x k) (by omega))); (have hv1o := own_one hI1.row); replace hn := hn.bl hbc; replace hM := hM.bl hbc; replace hW := hW.bl hbc hB; replace hA := hA.bl hbc; replace hB := Nat.le_trans hB hbc.size; replace hS := Nat.le_trans hS hbc.size; replace hr := hr.bl hbc; replace hq := hq.bl hbc; replace hL := own_bel hL hbc; replace hD := own_bel hD hbc; clear hbc) | ((with_reducible refine st_bk w.heap.size _ _ s v1 hv1o hr ?_ ?_ ?_); exact rfl; exact rfl; intro W hnew ho; replace hI1 := hI1.only ho (fun e => absurd (hI1.row.lt _ e).1 (by omega)) (fun x hx e => absurd ((hI1.own x hx).lt _ e).1 (by omega)); replace hn := hn.only ho (by omega); replace hL := own_only hL ho (fun e => absurd (own_ty hL e hr) (by decide)); replace hD := own_only hD ho (fun e => absurd (own_ty hD e hr) (by decide)); replace hq := hq.only ho (by omega); replace hM := hM.only ho (hF.at 0 (by omega)); replace hA := hA.onlyR ho (by omega); replace hW := hW.only ho (by omega) (by omega); replace hS := (show w.heap.size + 2 ≤ W.heap.size by rw [ho.size]; exact hS); replace hB := (show B ≤ W.heap.size by rw [ho.size]; exact hB); replace hr := hnew; clear hnew ho) | (go_at_call 49; (with_reducible refine (HD.out _ _ _ _ q1 hI1).mono ?_); rintro e W4 ⟨v3, g3, rfl, hg3, hk3, hI3⟩; (have hg4 := (hI1.row.lt g3 hg3).1); (have hgO := hI1.far g3 hg3); (obtain ⟨cg, hcg⟩ := hI1.rowT g3 hg3); (have hnn : NQ ≠ g3 := Nat.ne_of_lt (hv1n g3 hg3)); replace hr := hk3.rowT hr (by omega); replace hq := hk3.rowT hq (by omega); replace hn := hk3.rowT hn hnn; replace hL := hk3.own hL hcg (by decide); replace hD := hk3.own hD hcg (by decide); replace hM := hk3.ram hM hgO; replace hW := hk3.went hW (by omega) hB0; replace hA := hk3.areas hA (by omega); replace hS := Nat.le_trans hS hk3.size; replace hB := Nat.le_trans hB hk3.size; (have hv3o := own_one hI3.row); clear hI1 hcg hk3 hg3 hv1o hv1n) | ((with_reducible refine st_bin w.heap.size s _ v3 hv3o _ hr ?_ ?_ ?_); exact rfl; exact rfl; intro W hnew ho; replace hI3 := hI3.only ho (fun e => absurd (hI3.row.lt _ e).1 (by omega)) (fun x hx e => absurd ((hI3.own x hx).lt _ e).1 (by omega)); replace hn := hn.only ho (by omega); replace hL := own_only hL ho (fun e => absurd (own_ty hL e hr) (by decide)); replace hD := own_only hD ho (fun e => absurd (own_ty hD e hr) (by decide)); replace hq := hq.only ho (by omega); replace hM := hM.only ho (hF.at 0 (by omega)); replace hA := hA.onlyR ho (by omega); replace hW := hW.only ho (by omega) (by omega); replace hS := (show w.heap.size + 2 ≤ W.heap.size by rw [ho.size]; exact hS); replace hB := (show B ≤ W.heap.size by rw [ho.size]; exact hB); replace hr := hnew; clear hnew ho))
  clear i1 i2 t1
  go_wp2_with (first | ((with_reducible refine ld_qwr NQ q qv 102 hn ?_ ?_ ?_); exact rfl; exact rfl; rw [hqw]))
  refine wp_region_held_drew (S := (fun V => RowAt V w.heap.size (s.c v3) 53 ∧ RowAt V NQ (q.c qv) 102)) (by kernel_rfl) ?_ (fun hHeld => ?_)
  · exact ⟨hr.dr, hn.dr⟩
  replace hM := hM.dr
  replace hW := hW.dr
  replace hA := hA.drR
  replace hS : w.heap.size + 2 ≤ (World.drew _).heap.size := hS
  replace hB : B ≤ (World.drew _).heap.size := hB
  replace hq := hq.dr
  replace hL := own_dr hL
  replace hD := own_dr hD
  replace hI3 := hI3.dr
  generalize World.drew _ = V at hHeld hM hW hA hS hB hq hL hD hI3 ⊢
  clear hr hn
  refine tkO 0 (.agg (s.c v3)) (by simp only [gT, gZ]; rfl) (y_bk w.heap.size s v3 (fun V hV => hV.1) rfl rfl) ?_
  simp only [Act.put, pA, pZ, pS]
  refine tkO 1 (.pointer (some ⟨b, 0, none⟩)) (by simp only [gT, gZ, gS]; rfl) (puO (by (intro w hSw; (try dsimp only at hSw); go_simp))) ?_
  simp only [Act.put, pA, pZ, pS]
  refine tkO 2 (.pointer (some ⟨NQ, 1, none⟩)) (by simp only [gT, gZ, gS]; rfl) (puO (by (intro w hSw; (try dsimp only at hSw); go_simp))) ?_
  simp only [Act.put, pA, pZ, pS]
  refine tkO 3 (.int .i64 q.hd) (by simp only [gT, gZ, gS]; rfl) (y_qhd NQ q qv _ (fun V hV => hV.2) rfl) ?_
  simp only [Act.put, pA, pZ, pS]
  refine tkO 4 (.pointer (some ⟨NQ, 5, none⟩)) (by simp only [gT, gZ, gS]; rfl) (puO (by (intro w hSw; (try dsimp only at hSw); go_simp))) ?_
  simp only [Act.put, pA, pZ, pS]
  refine tkO 5 qv (by simp only [gT, gZ, gS]; rfl) (y_ql NQ q qv _ (fun V hV => hV.2) rfl) ?_
  simp only [Act.put, pA, pZ, pS]
  refine tkO 6 (.slice da dn dc) (by simp only [gT, gZ, gS]; rfl) (puO (by (intro w hSw; (try dsimp only at hSw); go_simp))) ?_
  simp only [Act.put, pA, pZ, pS]
  refine wpAnyH_ready (rs := [7, 8]) (by kernel_rfl) (by simp) ?_
  refine AllReadyH.cons (o := ?oi8) ?hi8 (fun K hK => ?b8) (AllReadyH.cons (o := ?oi9) ?hi9 (fun K hK => ?b9) AllReadyH.nil)
  case hi8 => (simp only [List.getElem?_toArray, List.getElem?_cons_zero, List.getElem?_cons_succ]; rfl)
  case hi9 => (simp only [List.getElem?_toArray, List.getElem?_cons_zero, List.getElem?_cons_succ]; rfl)
  case b8 =>
    rw [if_pos (by rfl)]
    go_simp
    (with_reducible refine (HCl.out _ hD).mono ?_)
    rintro e V2 ⟨cv, rfl, hcv, hbc⟩
    (have hcn : ∀ g, cv.ownBlock = some g → NQ < g ∧ V.heap.size ≤ g := fun g e => ⟨Nat.lt_of_lt_of_le hHeld.2.lt (hcv.lt g e).1, (hcv.lt g e).1⟩)
    (have hco : ∀ g, cv.ownBlock = some g → ¬ O g := fun g e k => absurd (hM.lt g k) (Nat.not_lt.2 (hcv.lt g e).1))
    (have hcS := hbc.size)
    have hH2 := hide (And.intro (hHeld.1.bl hbc) (hHeld.2.bl hbc))
    replace hM := hM.bl hbc
    replace hW := hW.bl hbc hB
    replace hA := hA.bl hbc
    replace hB := Nat.le_trans hB hbc.size
    replace hS := Nat.le_trans hS hbc.size
    replace hq := hq.bl hbc
    replace hL := own_bel hL hbc
    replace hD := own_bel hD hbc
    replace hI3 := hI3.bl hbc
    (try replace hby := hby.bl hbc)
    clear hHeld hbc
    go_simp
    refine hK.out _ _ ?_ (fun hHeld => ?_)
    · exact hH2.out
    clear hK K
    clear hH2
    refine skO 8 (by simp only [gT, gZ, gS]; rfl) (fun K hK => ?_)
    rw [if_pos (by rfl)]
    (obtain ⟨NB, hNB0⟩ : ∃ n, V2.heap.size = n := ⟨_, rfl⟩)
    (with_reducible refine s_bsr 37 5 1 Tryz.underlying37 #[.int .u8 (0 : Nat)] NB ?_ [(0, .int .u8 (0 : Nat))] ?_ (bs_byte 0) ?_)
    · exact hNB0
    · first | rfl | (simp; done) | kernel_rfl
    intro V3 hby hbc hz3
    rw [← hNB0] at hbc
    clear hNB0
    have hH2 := hide (And.intro (hHeld.1.bl hbc) (hHeld.2.bl hbc))
    replace hM := hM.bl hbc
    replace hW := hW.bl hbc hB
    replace hA := hA.bl hbc
    replace hB := Nat.le_trans hB hbc.size
    replace hS := Nat.le_trans hS hbc.size
    replace hq := hq.bl hbc
    replace hL := own_bel hL hbc
    replace hD := own_bel hD hbc
    replace hI3 := hI3.bl hbc
    (try replace hcv := own_bel hcv hbc)
    (try replace hcS := Nat.le_trans hcS hbc.size)
    clear hHeld hbc hz3
    refine hK.out _ _ ?_ (fun hHeld => ?_)
    · exact hH2.out
    clear hK K
    clear hH2
    refine skO 9 (by simp only [gT, gZ, gS]; rfl) (fun K hK => ?_)
    rw [if_pos (by rfl)]
    (with_reducible refine s_appl 37 5 ib _ 1 1 Tryz.underlying37 ib1 ib2 ib3 ib4 rfl (by decide) hcv ⟨NB, 0, none⟩ 1 1 (byteV [0]) rfl ?_ (byteV_one _) (by unfold maxLen; omega) (by omega) ?_ ?_ ?_ ?_)
    · intro j u hu
      rw [Addr.add_lit, Nat.zero_add]
      have hj0 : j < 1 := by have := (List.getElem?_eq_some_iff.1 hu).1; simpa [byteV] using this
      (obtain rfl : j = 0 := by omega)
      rw [hby.cell 0]
      simpa [byteV] using hu
    · exact hcS
    · exact rfl
    · exact rfl
    intro V6 dv hdv hg hbk
    rw [← byteV_append] at hdv
    have hdo := grow_no hM hco hbk
    have hrT := own_rowT hcv
    have hH2 := hide (And.intro (grow_row hHeld.1 hg (fun e => absurd (hcn _ e).1 (by omega))) (grow_row hHeld.2 hg (fun e => absurd (hcn _ e).1 (by omega))))
    replace hq := grow_row hq hg (fun e => absurd (hcn _ e).1 (by omega))
    replace hM := grow_ram hM hg hco
    replace hW := grow_went hW hg (fun g e => by have := (hcn g e).1; omega) hB0
    replace hA := hA.growR hg (fun g e => by have := (hcn g e).1; omega)
    replace hL := own_grow (cs := #[]) hL hg hrT (by decide)
    replace hI3 := hI3.growU hg hrT
    replace hS := Nat.le_trans hS hg.size
    replace hB := Nat.le_trans hB hg.size
    clear hHeld hcv hby hg hbk hcn hco hrT hD hcS
    refine hK.out _ _ ?_ (fun hHeld => ?_)
    · exact hH2.out
    clear hK K
    clear hH2
    refine skO 10 (by simp only [gT, gZ, gS]; rfl) (fun K hK => ?_)
    rw [if_pos (by rfl)]
    go_simp
    (with_reducible refine (HAn.out _ _ _ _ _ hv3o hM hA hL hdv hdo).mono ?_)
    rintro e V4 ⟨rfl, O2, hM2, hW2⟩
    have hH2 := hide (And.intro (hW2.row hHeld.1 (hF.at 0 (by omega))) hW2.size)
    replace hq := hW2.row hq (hF.at 1 (by omega))
    replace hI3 := hI3.went hW2
    replace hA := hA.wentR hG hW2
    replace hF := hF.went hW2 hS
    replace hS := Nat.le_trans hS hW2.size
    replace hW := hW.trans hW2
    replace hB := Nat.le_trans hB hW2.size
    have hH3 := hide (And.intro hH2.out.1 (hW2.row hHeld.2 hnO))
    clear hM hW2 hHeld hL hdv hdo hH2
    go_simp
    refine hK.out _ _ ?_ (fun hHeld => ?_)
    · exact hH3.out
    clear hK K
    clear hH3
    refine skO 11 (by simp only [gT, gZ, gS]; rfl) (fun K hK => ?_)
    rw [if_pos (by rfl)]
    (with_reducible refine s_bk (w.heap.size + 1) _ _ s3 v3 hv3o hq ?_ ?_ ?_)
    · exact rfl
    · exact rfl
    intro V5 hnew ho
    have hH2 := hide (And.intro (hHeld.1.only ho (by omega)) (hHeld.2.only ho (by omega)))
    replace hM2 := hM2.only ho (hF.at 1 (by omega))
    replace hW := hW.only ho (by omega) (by omega)
    replace hI3 := hI3.only ho (fun e => absurd (own_ty hI3.row e hq) (by decide)) (fun x hx e => absurd (own_ty (hI3.own x hx) e hq) (by decide))
    clear hHeld ho hq
    refine hK.out _ _ ?_ (fun hHeld => ?_)
    · exact hH2.out
    clear hK K
    clear hH2
    refine tkO 12 (.nilIface) (by simp only [gT, gZ, gS]; rfl) (puO (by (intro w hSw; (try dsimp only at hSw); go_simp))) ?_
    simp only [Act.put, pA, pZ, pS]
    refine wpAnyH_done (by kernel_rfl) ?_ _
    go_simp
    go_wp2
    refine bodyPost_ret (results_cell_u Tryz.results17 _ _ (w.heap.size + 1) _ _ _ rfl hnew Tryz.underlying53 rfl size_bk) rfl ?_
    exact ⟨_, rfl, _, _, by rw [map_erase, q1, HSL.out], hM2, hW, hI3.lower (by omega)⟩
  case b9 =>
    rw [if_pos (by rfl)]
    (obtain ⟨NB, hNB0⟩ : ∃ n, V.heap.size = n := ⟨_, rfl⟩)
    (with_reducible refine s_bsr 37 5 1 Tryz.underlying37 #[.int .u8 (0 : Nat)] NB ?_ [(0, .int .u8 (0 : Nat))] ?_ (bs_byte 0) ?_)
    · exact hNB0
    · first | rfl | (simp; done) | kernel_rfl
    intro V3 hby hbc hz3
    rw [← hNB0] at hbc
    clear hNB0
    have hH2 := hide (And.intro (hHeld.1.bl hbc) (hHeld.2.bl hbc))
    replace hM := hM.bl hbc
    replace hW := hW.bl hbc hB
    replace hA := hA.bl hbc
    replace hB := Nat.le_trans hB hbc.size
    replace hS := Nat.le_trans hS hbc.size
    replace hq := hq.bl hbc
    replace hL := own_bel hL hbc
    replace hD := own_bel hD hbc
    replace hI3 := hI3.bl hbc
    (try replace hcv := own_bel hcv hbc)
    (try replace hcS := Nat.le_trans hcS hbc.size)
    clear hHeld hbc hz3
    refine hK.out _ _ ?_ (fun hHeld => ?_)
    · exact hH2.out
    clear hK K
    clear hH2
    refine skO 7 (by simp only [gT, gZ, gS]; rfl) (fun K hK => ?_)
    rw [if_pos (by rfl)]
    go_simp
    (with_reducible refine (HCl.out _ hD).mono ?_)
    rintro e V2 ⟨cv, rfl, hcv, hbc⟩
    (have hcn : ∀ g, cv.ownBlock = some g → NQ < g ∧ V3.heap.size ≤ g := fun g e => ⟨Nat.lt_of_lt_of_le hHeld.2.lt (hcv.lt g e).1, (hcv.lt g e).1⟩)
    (have hco : ∀ g, cv.ownBlock = some g → ¬ O g := fun g e k => absurd (hM.lt g k) (Nat.not_lt.2 (hcv.lt g e).1))
    (have hcS := hbc.size)
    have hH2 := hide (And.intro (hHeld.1.bl hbc) (hHeld.2.bl hbc))
    replace hM := hM.bl hbc
    replace hW := hW.bl hbc hB
    replace hA := hA.bl hbc
    replace hB := Nat.le_trans hB hbc.size
    replace hS := Nat.le_trans hS hbc.size
    replace hq := hq.bl hbc
    replace hL := own_bel hL hbc
    replace hD := own_bel hD hbc
    replace hI3 := hI3.bl hbc
    (try replace hby := hby.bl hbc)
    clear hHeld hbc
    go_simp
    refine hK.out _ _ ?_ (fun hHeld => ?_)
    · exact hH2.out
    clear hK K
    clear hH2
    refine skO 9 (by simp only [gT, gZ, gS]; rfl) (fun K hK => ?_)
    rw [if_pos (by rfl)]
    (with_reducible refine s_appl 37 5 ib _ 1 1 Tryz.underlying37 ib1 ib2 ib3 ib4 rfl (by decide) hcv ⟨NB, 0, none⟩ 1 1 (byteV [0]) rfl ?_ (byteV_one _) (by unfold maxLen; omega) (by omega) ?_ ?_ ?_ ?_)
    · intro j u hu
      rw [Addr.add_lit, Nat.zero_add]
      have hj0 : j < 1 := by have := (List.getElem?_eq_some_iff.1 hu).1; simpa [byteV] using this
      (obtain rfl : j = 0 := by omega)
      rw [hby.cell 0]
      simpa [byteV] using hu
    · exact hcS
    · exact rfl
    · exact rfl
    intro V6 dv hdv hg hbk
    rw [← byteV_append] at hdv
    have hdo := grow_no hM hco hbk
    have hrT := own_rowT hcv
    have hH2 := hide (And.intro (grow_row hHeld.1 hg (fun e => absurd (hcn _ e).1 (by omega))) (grow_row hHeld.2 hg (fun e => absurd (hcn _ e).1 (by omega))))
    replace hq := grow_row hq hg (fun e => absurd (hcn _ e).1 (by omega))
    replace hM := grow_ram hM hg hco
    replace hW := grow_went hW hg (fun g e => by have := (hcn g e).1; omega) hB0
    replace hA := hA.growR hg (fun g e => by have := (hcn g e).1; omega)
    replace hL := own_grow (cs := #[]) hL hg hrT (by decide)
    replace hI3 := hI3.growU hg hrT
    replace hS := Nat.le_trans hS hg.size
    replace hB := Nat.le_trans hB hg.size
    clear hHeld hcv hby hg hbk hcn hco hrT hD hcS
    refine hK.out _ _ ?_ (fun hHeld => ?_)
    · exact hH2.out
    clear hK K
    clear hH2
    refine skO 10 (by simp only [gT, gZ, gS]; rfl) (fun K hK => ?_)
    rw [if_pos (by rfl)]
    go_simp
    (with_reducible refine (HAn.out _ _ _ _ _ hv3o hM hA hL hdv hdo).mono ?_)
    rintro e V4 ⟨rfl, O2, hM2, hW2⟩
    have hH2 := hide (And.intro (hW2.row hHeld.1 (hF.at 0 (by omega))) hW2.size)
    replace hq := hW2.row hq (hF.at 1 (by omega))
    replace hI3 := hI3.went hW2
    replace hA := hA.wentR hG hW2
    replace hF := hF.went hW2 hS
    replace hS := Nat.le_trans hS hW2.size
    replace hW := hW.trans hW2
    replace hB := Nat.le_trans hB hW2.size
    have hH3 := hide (And.intro hH2.out.1 (hW2.row hHeld.2 hnO))
    clear hM hW2 hHeld hL hdv hdo hH2
    go_simp
    refine hK.out _ _ ?_ (fun hHeld => ?_)
    · exact hH3.out
    clear hK K
    clear hH3
    refine skO 11 (by simp only [gT, gZ, gS]; rfl) (fun K hK => ?_)
    rw [if_pos (by rfl)]
    (with_reducible refine s_bk (w.heap.size + 1) _ _ s3 v3 hv3o hq ?_ ?_ ?_)
    · exact rfl
    · exact rfl
    intro V5 hnew ho
    have hH2 := hide (And.intro (hHeld.1.only ho (by omega)) (hHeld.2.only ho (by omega)))
    replace hM2 := hM2.only ho (hF.at 1 (by omega))
    replace hW := hW.only ho (by omega) (by omega)
    replace hI3 := hI3.only ho (fun e => absurd (own_ty hI3.row e hq) (by decide)) (fun x hx e => absurd (own_ty (hI3.own x hx) e hq) (by decide))
    clear hHeld ho hq
    refine hK.out _ _ ?_ (fun hHeld => ?_)
    · exact hH2.out
    clear hK K
    clear hH2
    refine tkO 12 (.nilIface) (by simp only [gT, gZ, gS]; rfl) (puO (by (intro w hSw; (try dsimp only at hSw); go_simp))) ?_
    simp only [Act.put, pA, pZ, pS]
    refine wpAnyH_done (by kernel_rfl) ?_ _
    go_simp
    go_wp2
    refine bodyPost_ret (results_cell_u Tryz.results17 _ _ (w.heap.size + 1) _ _ _ rfl hnew Tryz.underlying53 rfl size_bk) rfl ?_
    exact ⟨_, rfl, _, _, by rw [map_erase, q1, HSL.out], hM2, hW, hI3.lower (by omega)⟩
end Go.Proofs.YtaaiockiojejeaaGreatDoor
namespace Go.Proofs.YtaaiockiojejeaaGreatDoor
open Go.RowKit
set_option linter.unusedVariables false
set_option linter.unusedSimpArgs false

def hP (st la pu ir : Nat) : V := ⟨st, 0, 0, 0, ir, 0, 1, ⟨true, lR la pu⟩, zeroQu⟩
structure PGood (p : V) : Prop where
  ex : ∃ st la pu ir, p = hP st la pu ir ∧ (st = 15 ∨ st = 79) ∧ ir ≤ 3 ∧ la < 65536 ∧ pu < 65536
theorem hR_ok {la pu : Nat} (h1 : la < 65536) (h2 : pu < 65536) : (lR la pu).Ok := ⟨by show (_ : Int) ≤ 4; decide, by show (4 : Int) ≤ _; decide, by show 2147483648 < _; decide, by show 2147483904 < _; decide, by show 2147484160 < _; decide, h1, h2⟩
theorem PGood.ok {p : V} (h : PGood p) : p.Ok := by
  obtain ⟨st, la, pu, ir, rfl, h1, h2, h3, h4⟩ := h.ex
  exact ⟨by show st < _; omega, by show 0 < _; decide, by show 0 < _; decide, by show 0 < _; decide, by show ir < _; omega, by show 0 < _; decide, by show 1 < _; decide, hR_ok h3 h4, zeroRg_ok⟩
theorem PGood.may {p : V} (h : PGood p) : mayV p = true := by
  obtain ⟨st, la, pu, ir, rfl, h1, h2, h3, h4⟩ := h.ex
  have e1 : okSt st = true := by rcases h1 with rfl | rfl <;> kernel_rfl
  have e2 : (decide (ir ≤ 3)) = true := decide_eq_true h2
  show (okSt st && (decide (ir ≤ 3) && ((!st.testBit 3 || setl (hP st la pu ir)) && (mayQ ⟨true, lR la pu⟩ && mayQ zeroQu)))) = true
  rw [e1, e2, show setl (hP st la pu ir) = true from rfl, show mayQ ⟨true, lR la pu⟩ = true from lR_chk la pu, show mayQ zeroQu = true by kernel_rfl]
  simp
theorem PGood.st {p : V} (h : PGood p) : p.st ≠ 0 := by
  obtain ⟨st, la, pu, ir, rfl, h1, _⟩ := h.ex
  show st ≠ 0
  omega
theorem or_small : ∀ x, x ≤ 3 → x ||| 1 ≤ 3 ∧ x ||| 2 ≤ 3 := by decide
theorem PGood.fail {p : V} (h : PGood p) : PGood (failV p) := by
  obtain ⟨st, la, pu, ir, rfl, h1, h2, h3, h4⟩ := h.ex
  refine ⟨st ||| 64, la, pu, ir ||| 2, rfl, .inr ?_, (or_small ir h2).2, h3, h4⟩
  rcases h1 with rfl | rfl <;> rfl
theorem PGood.used {p : V} (h : PGood p) : PGood (usedV p) := by
  obtain ⟨st, la, pu, ir, rfl, h1, h2, h3, h4⟩ := h.ex
  exact ⟨st, la, pu, ir ||| 1, rfl, h1, (or_small ir h2).1, h3, h4⟩
theorem PGood.ring {p : V} (h : PGood p) {la pu : Nat} (h1 : la < 65536) (h2 : pu < 65536) : PGood (p.q0w (p.q0.rw' (lR la pu))) := by
  obtain ⟨st, la', pu', ir, rfl, k1, k2, _, _⟩ := h.ex
  exact ⟨st, la, pu, ir, rfl, k1, k2, h1, h2⟩
theorem PGood.r {p : V} (h : PGood p) : ∃ la pu, p.q0.r = lR la pu ∧ la < 65536 ∧ pu < 65536 := by
  obtain ⟨st, la, pu, ir, rfl, _, _, h3, h4⟩ := h.ex
  exact ⟨la, pu, rfl, h3, h4⟩
/-- A request that can be. -/
structure QGood (q : Rq) : Prop where
  ok : q.Ok
  h0 : 0 ≤ q.hd
  h1 : q.hd < 256
  n0 : 0 < q.n
  n5 : q.n % 512 = 0
  n1 : q.n ≤ 1048576
  wit : isWit 100 q.se q.n.toNat = true
  seg : ∀ g ∈ q.l, g.wr = true ∧ inS 2 g = true ∧ 0 ≤ g.n
  pos : 0 < q.l.length
  len : q.l.length ≤ 256
  r1 : 1 ≤ roomV true 0 q.l
  r2 : roomV true 0 q.l ≤ 1048576
  r3 : q.wr = false → roomV true 0 q.l = q.n + 1
structure Good (s : Bk) : Prop where
  p : PGood s.p
  sc : s.sc = 100
  nx : s.nx < 4294967296
  len : s.l.length ≤ 8
  fre : ∀ q ∈ s.l, q.id ≠ s.nx
  nod : (s.l.map (·.id)).Nodup
  qs : ∀ q ∈ s.l, QGood q
theorem Good.ok {s : Bk} (h : Good s) : s.Ok := ⟨h.p.ok, by rw [h.sc]; decide, h.nx, fun q hq => (h.qs q hq).ok, by have := h.len; omega⟩
/-- What the disk may be asked for. -/
structure AskOk (k : Ak) : Prop where
  in' : (k.se : Int) + k.n / 512 ≤ 100
  n : 512 ≤ k.n
  d : k.wr = decide ((k.da.length : Int) = k.n)
/-- What a step adds. -/
structure More (s s' : Bk) (a a' : List Ak) : Prop where
  ex : ∃ new newa, s'.l = s.l ++ new ∧ a' = a ++ newa ∧ newa.map (·.id) = new.map (·.id) ∧ ∀ k ∈ newa, AskOk k
theorem More.same {s s' : Bk} {a : List Ak} (h : s'.l = s.l) : More s s' a a := ⟨[], [], by rw [h, List.append_nil], by rw [List.append_nil], rfl, fun k hk => by cases hk⟩
theorem More.trans {s s1 s2 : Bk} {a a1 a2 : List Ak} (h : More s s1 a a1) (k : More s1 s2 a1 a2) : More s s2 a a2 := by
  obtain ⟨n1, m1, e1, e2, e3, e4⟩ := h.ex
  obtain ⟨n2, m2, k1, k2, k3, k4⟩ := k.ex
  refine ⟨n1 ++ n2, m1 ++ m2, by rw [k1, e1, List.append_assoc], by rw [k2, e2, List.append_assoc], by rw [List.map_append, List.map_append, e3, k3], fun x hx => ?_⟩
  rcases List.mem_append.1 hx with q | q
  · exact e4 x q
  · exact k4 x q
theorem Good.with {s : Bk} (h : Good s) (p' : V) (hp : PGood p') (b : Bool) : Good ⟨p', s.sc, b, s.nx, s.l⟩ := ⟨hp, h.sc, h.nx, h.len, h.fre, h.nod, h.qs⟩
theorem ans_good {f : Nat → Nat} {s : Bk} {hd : Int} {l : List Sg} {b : List Nat} (h : Good s) : Good (ansV 2 f s hd l b).2 ∧ (ansV 2 f s hd l b).2.l = s.l := by
  unfold ansV
  split
  · split
    · rename_i r hr
      obtain ⟨la, pu, e, h1, h2⟩ := h.p.r
      have hg : r = lR la ((pu + 1) % 65536) := by
        have hr' := hr
        unfold giveV at hr'
        rw [e] at hr'
        revert hr'
        repeat' split
        all_goals first | (intro q; cases q; rfl) | (intro q; cases q)
      subst hg
      exact ⟨h.with _ ((h.p.ring h1 (Nat.mod_lt _ (by decide))).used) s.be, rfl⟩
    · exact ⟨h.with _ h.p.fail s.be, rfl⟩
  · exact ⟨h.with _ h.p.fail s.be, rfl⟩
theorem wri_room : ∀ (l : List Sg) (a : Int), roomV true a (wriL l) = roomV true a l
  | [], a => rfl
  | s :: t, a => by
    unfold wriL
    rw [List.filter_cons]
    cases hs : s.wr with
    | true =>
      rw [if_pos rfl]
      show roomV true (if s.wr = true then moreN a s.n else a) (wriL t) = roomV true (if s.wr = true then moreN a s.n else a) t
      exact wri_room t _
    | false =>
      rw [if_neg (by decide)]
      show roomV true a (wriL t) = roomV true (if s.wr = true then moreN a s.n else a) t
      rw [hs, if_neg (by decide)]
      exact wri_room t a
theorem nxt_free (l : List Rq) (n m : Nat) (hn : n < 4294967296) (hl : l.length ≤ m) (hm : l.length < 4294967296) : ∀ q ∈ l, q.id ≠ nxtV l (m + 1) n := by
  obtain ⟨k, hk, h1, h2⟩ := free_at l n hm
  rw [nxtV_at l k m n hn (by omega) h1 h2]
  exact idxQ_neg.1 h1
theorem ent_good {f : Nat → Nat} {s : Bk} {hd : Int} {ps : List Sg} (h : Good s) (hl : s.l.length < 8) (hC : ChOk 2 f hd ps) (h0 : 0 ≤ hd) (h1 : hd < 256) (hm : (chOf f hd ps).mov = true) (hw : isWit s.sc (chOf f hd ps).se (chOf f hd ps).dat.toNat = true) :
    Good (entV f s (chOf f hd ps)).1 ∧ AskOk (entV f s (chOf f hd ps)).2 := by
  obtain ⟨d0, d5, dk⟩ := hC.dat hm
  obtain ⟨r1, r2⟩ := hC.pk.rooms false
  obtain ⟨r3, r4⟩ := hC.pk.rooms true
  have w1 := hC.w1
  rw [h.sc] at hw
  obtain ⟨c, hc⟩ : ∃ c, chOf f hd ps = c := ⟨_, rfl⟩
  have hse : c.se ≤ 100 ∧ c.dat.toNat / 512 ≤ 100 - c.se := by
    rw [hc] at hw
    simpa [isWit, Bool.and_eq_true, decide_eq_true_eq] using hw
  have hdat : c.dat = if c.kd = 1 then roomV false 0 ps - 16 else roomV true 0 ps - 1 := by rw [← hc]; rfl
  have hps : c.ps = ps := by rw [← hc]; rfl
  have hhd : c.hd = hd := by rw [← hc]; rfl
  have hgl : c.kd = 1 → ((gathF f (partsV false maxI c.ps)).length : Int) = c.dat + 16 := fun e => by
    rw [hps, gath_len f ps maxI (fun s hs => (hC.pk.ok s hs).2) (by unfold maxI; omega), hdat, if_pos e]; omega
  rw [hc] at d0 d5 dk ⊢
  have hmod : c.se % 4294967296 = c.se := Nat.mod_eq_of_lt (by omega)
  have hdb : c.dat ≤ 1048576 := by rw [hdat]; split <;> omega
  have hq : QGood (reqV s c) := by
    have hsg : ∀ g ∈ wriL c.ps, g.wr = true ∧ g ∈ ps := fun g hg => by
      have := List.mem_filter.1 hg
      exact ⟨this.2, hps ▸ this.1⟩
    have hrm : roomV true 0 (wriL c.ps) = roomV true 0 ps := by rw [wri_room, hps]
    refine ⟨⟨h.nx, by show (_ : Int) ≤ c.hd; rw [hhd]; omega, by show c.hd ≤ _; rw [hhd]; omega, Nat.mod_lt _ (by decide), by show (_ : Int) ≤ c.dat; omega, by show c.dat ≤ _; omega, fun g hg => (hC.pk.ok g (hsg g hg).2).1, ?_⟩, by show (0 : Int) ≤ c.hd; rw [hhd]; exact h0, by show c.hd < 256; rw [hhd]; exact h1, d0, d5, hdb, ?_, fun g hg => ⟨(hsg g hg).1, hC.pk.ins g (hsg g hg).2, (hC.pk.ok g (hsg g hg).2).2⟩, ?_, ?_, ?_, ?_, ?_⟩
    · have := List.length_filter_le (fun s : Sg => s.wr) c.ps
      have := hC.pk.len
      show (wriL c.ps).length ≤ 1000
      unfold wriL; rw [hps] at *; omega
    · show isWit 100 (c.se % 4294967296) c.dat.toNat = true
      rw [hmod]; rw [hc] at hw; exact hw
    · show 0 < (wriL c.ps).length
      rcases Nat.eq_zero_or_pos (wriL c.ps).length with e | e
      · rw [List.eq_nil_of_length_eq_zero e] at hrm
        have : roomV true 0 ([] : List Sg) = 0 := rfl
        omega
      · exact e
    · have := List.length_filter_le (fun s : Sg => s.wr) c.ps
      have := hC.pk.len
      show (wriL c.ps).length ≤ 256
      unfold wriL; rw [hps] at *; omega
    · show 1 ≤ roomV true 0 (wriL c.ps)
      rw [hrm]; exact w1
    · show roomV true 0 (wriL c.ps) ≤ 1048576
      rw [hrm]; omega
    · intro hwr
      show roomV true 0 (wriL c.ps) = c.dat + 1
      have hkd : ¬ c.kd = 1 := of_decide_eq_false hwr
      rw [hrm, hdat, if_neg hkd]; omega
  have hll : (s.l ++ [reqV s c]).length = s.l.length + 1 := by simp
  refine ⟨⟨h.p, h.sc, nxtV_lt _ _ _ h.nx, by show (s.l ++ [reqV s c]).length ≤ 8; omega, nxt_free (s.l ++ [reqV s c]) s.nx (s.l.length + 1) h.nx (by omega) (by omega), ?_, fun q hq' => ?_⟩, ?_, ?_, ?_⟩
  · show ((s.l ++ [reqV s c]).map (·.id)).Nodup
    rw [List.map_append, List.nodup_append]
    refine ⟨h.nod, by simp, fun a ha b hb => ?_⟩
    obtain ⟨q, hq1, rfl⟩ := List.mem_map.1 ha
    rw [List.mem_singleton.1 hb]
    exact h.fre q hq1
  · rcases List.mem_append.1 hq' with k | k
    · exact h.qs q k
    · rw [List.mem_singleton.1 k]; exact hq
  · show ((c.se % 4294967296 : Nat) : Int) + c.dat / 512 ≤ 100
    rw [hmod]; omega
  · show 512 ≤ c.dat
    omega
  · show decide (c.kd = 1) = decide (((if c.kd = 1 then (gathF f (partsV false maxI c.ps)).drop 16 else []).length : Int) = c.dat)
    by_cases e : c.kd = 1
    · rw [if_pos e, List.length_drop, decide_eq_true e]
      have := hgl e
      exact (decide_eq_true (by omega)).symm
    · rw [if_neg e, decide_eq_false e]
      exact (decide_eq_false (by show ¬ ((0 : Nat) : Int) = c.dat; omega)).symm
theorem srv_good {f : Nat → Nat} {s : Bk} {hd : Int} {ps : List Sg} {a : List Ak} (h : Good s) (hl : s.l.length < 8) (hC : ChOk 2 f hd ps) (h0 : 0 ≤ hd) (h1 : hd < 256) :
    Good (srvV 2 f s (chOf f hd ps)).2.1 ∧ More s (srvV 2 f s (chOf f hd ps)).2.1 a (a ++ (srvV 2 f s (chOf f hd ps)).2.2) := by
  unfold srvV
  split
  · exact ⟨ans_good h |>.1, by rw [List.append_nil]; exact More.same (ans_good h).2⟩
  · split
    · rename_i hm
      split
      · rename_i hw
        obtain ⟨k1, k2⟩ := ent_good h hl hC h0 h1 hm hw
        exact ⟨k1, ⟨[reqV s (chOf f hd ps)], [(entV f s (chOf f hd ps)).2], rfl, rfl, rfl, fun k hk => by rw [List.mem_singleton.1 hk]; exact k2⟩⟩
      · exact ⟨ans_good h |>.1, by rw [List.append_nil]; exact More.same (ans_good h).2⟩
    · exact ⟨ans_good h |>.1, by rw [List.append_nil]; exact More.same (ans_good h).2⟩
theorem stp_good {x : X3} (h : Good x.s) (hl : x.s.l.length < 8) (hf : ∀ y, x.f y < 256) : Good (stpV 2 x).2.s ∧ More x.s (stpV 2 x).2.s x.a (stpV 2 x).2.a := by
  obtain ⟨la, pu, e, h1, h2⟩ := h.p.r
  unfold stpV
  split
  · rename_i hz
    split
    · rename_i ht
      have hn : (nextV 2 x.f x.s.p.q0.r).1 = lR ((la + 1) % 65536) pu ∧ ((nextV 2 x.f x.s.p.q0.r).2.1 : Int) < 4 := by
        rw [e] at ht ⊢
        revert ht
        unfold nextV
        repeat' split
        all_goals first | (intro q; cases q; done) | (rename_i hh; intro _; exact ⟨rfl, hh.2⟩)
      rw [hn.1]
      have hg := h.with _ (h.p.ring (la := (la + 1) % 65536) (Nat.mod_lt _ (by decide)) h2) x.s.be
      split
      · exact ⟨h.with _ h.p.fail x.s.be, More.same rfl⟩
      · rename_i c hc
        obtain ⟨ps, rfl, hC⟩ := look_ok hf (lR_chk _ _) hc
        have hk := srv_good (a := x.a) (s := x.s.ring (lR ((la + 1) % 65536) pu)) hg hl hC (by omega) (by omega)
        exact ⟨hk.1, ⟨hk.2.ex⟩⟩
    · exact ⟨h.with _ h.p false, More.same rfl⟩
  · exact ⟨h.with _ h.p.fail x.s.be, More.same rfl⟩
theorem scat_small : ∀ (l : List Sg) (b : List Nat) (f : Nat → Nat), (∀ y, f y < 256) → (∀ y ∈ b, y < 256) → ∀ y, scatF f l b y < 256
  | [], b, f, hf, hb, y => hf y
  | s :: t, b, f, hf, hb, y => scat_small t (b.drop s.n.toNat) _ (fun y => wroteF_lt hf _ (fun z hz => hb z (List.mem_of_mem_take hz)) y) (fun z hz => hb z (List.mem_of_mem_drop hz)) y
theorem give_small {p : Nat} {f : Nat → Nat} {r : Rg} {hd : Int} {n : Nat} (hf : ∀ y, f y < 256) : ∀ y, (giveV p f r hd n).1 y < 256 := by
  have h1 : ∀ h y, halfF r f h n y < 256 := fun h y => by unfold halfF; exact wroteF_lt (wroteF_lt hf _ (numB_small _ _)) _ (numB_small _ _) y
  unfold giveV
  repeat' split
  all_goals first | exact hf | exact h1 _ | (intro y; exact wroteF_lt (wroteF_lt (wroteF_lt hf _ (numB_small _ _)) _ (numB_small _ _)) _ (numB_small _ _) y)
theorem ans_small {p : Nat} {f : Nat → Nat} {s : Bk} {hd : Int} {l : List Sg} {b : List Nat} (hf : ∀ y, f y < 256) (hb : ∀ y ∈ b, y < 256) : ∀ y, (ansV p f s hd l b).1 y < 256 := by
  have h1 := scat_small (partsV true b.length l) b f hf hb
  unfold ansV
  split
  · split
    · exact give_small h1
    · exact give_small h1
  · exact hf
theorem tel_small {p : Nat} {f : Nat → Nat} {s : Bk} {hd : Int} {l : List Sg} {st : Nat} (hf : ∀ y, f y < 256) (hs : st < 256) : ∀ y, (telV p f s hd l st).1 y < 256 := ans_small hf (fun y hy => by rw [List.mem_singleton.1 hy]; exact hs)
theorem srv_small {p : Nat} {f : Nat → Nat} {s : Bk} {c : Ch} (hf : ∀ y, f y < 256) : ∀ y, (srvV p f s c).1 y < 256 := by
  unfold srvV
  split
  · exact tel_small hf (by decide)
  · split
    · split
      · exact hf
      · exact tel_small hf (by decide)
    · exact tel_small hf (by decide)
theorem stp_small {p : Nat} {x : X3} (hf : ∀ y, x.f y < 256) : ∀ y, (stpV p x).2.f y < 256 := by
  unfold stpV
  split
  · split
    · split
      · exact hf
      · exact srv_small hf
    · exact hf
  · exact hf
theorem polN_good : ∀ (k : Nat) (x : X3), Good x.s → (∀ y, x.f y < 256) → Good (polN 2 k x).s ∧ More x.s (polN 2 k x).s x.a (polN 2 k x).a
  | 0, x, h, hf => ⟨h, More.same rfl⟩
  | k + 1, x, h, hf => by
    rw [polN]
    split
    · rename_i hl
      obtain ⟨h1, h2⟩ := stp_good h hl hf
      split
      · obtain ⟨h3, h4⟩ := polN_good k _ h1 (stp_small hf)
        exact ⟨h3, h2.trans h4⟩
      · exact ⟨h1, h2⟩
    · exact ⟨h, More.same rfl⟩
theorem pol_good {f : Nat → Nat} {s : Bk} (h : Good s) (hf : ∀ y, f y < 256) : Good (polV 2 f s).s ∧ More s (polV 2 f s).s [] (polV 2 f s).a := by
  unfold polV
  split
  · exact polN_good _ ⟨f, s, []⟩ h hf
  · exact ⟨h, More.same rfl⟩
theorem lv_good : Good lvS := ⟨⟨15, 0, 0, 0, rfl, .inl rfl, by decide, by decide, by decide⟩, rfl, by decide, by decide, fun q h => (by cases h), by decide, fun q h => (by cases h)⟩
theorem erase_good {s : Bk} {k : Nat} (h : Good s) : Good { s with l := s.l.eraseIdx k } :=
  ⟨h.p, h.sc, h.nx, Nat.le_trans (List.length_eraseIdx_le ..) h.len, fun q hq => h.fre q (List.mem_of_mem_eraseIdx hq), by
    rw [show (s.l.eraseIdx k).map (·.id) = (s.l.map (·.id)).eraseIdx k from map_erase (·.id) s.l k]
    exact (List.eraseIdx_sublist _ _).nodup h.nod, fun q hq => h.qs q (List.mem_of_mem_eraseIdx hq)⟩
end Go.Proofs.YtaaiockiojejeaaGreatDoor
