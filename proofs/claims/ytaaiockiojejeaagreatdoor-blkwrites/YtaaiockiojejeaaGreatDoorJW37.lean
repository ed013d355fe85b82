/-
  Pieces of the laws' walks.
-/
import Derived.Test.YtaaiockiojejeaaGreatDoorJW35
import Derived.Test.YtaaiockiojejeaaGreatDoorJW29
import Derived.Test.YtaaiockiojejeaaGreatDoorJW36
namespace Go.Proofs.YtaaiockiojejeaaGreatDoor
open Go.RowKit
set_option linter.unusedVariables false
set_option linter.unusedSimpArgs false

theorem InAt.dr {w : World} {B : Nat} {O : Nat → Prop} {v : Value} {l : List (Rq × Value)} (h : InAt w B O v l) : InAt w.drew B O v l := ⟨own_dr h.row, fun x hx => own_dr (h.own x hx), h.far, h.fars⟩
theorem InAt.growU {w W : World} {B : Nat} {O : Nat → Prop} {v av : Value} {l : List (Rq × Value)} (h : InAt w B O v l) (hg : w.grownBy W av.ownBlock) (hr : ∀ g, av.ownBlock = some g → ∃ cs, RowAt w g cs 5) : InAt W B O v l :=
  ⟨own_grow (cs := #[]) h.row hg hr (by decide), fun x hx => own_grow (cs := #[]) (h.own x hx) hg hr (by decide), h.far, h.fars⟩
theorem own_rowT {w : World} {B e sz n : Nat} {v : Value} {xs : List Value} (h : w.ownsRow B e sz v n xs) : ∀ g, v.ownBlock = some g → ∃ cs, RowAt w g cs e := fun g hg => by
  rcases h.2 with ⟨h1, _⟩ | ⟨g', cap, cur, h1, _, h3, _⟩
  · rw [h1] at hg; cases hg
  · rw [h1] at hg; cases hg; exact ⟨cur, h3⟩
theorem bytesO_own {W : World} {B : Nat} {O : Nat → Prop} {v : Value} {l : List Nat} {n : Nat} (h : W.ownsRow B 5 1 v n (byteV l)) (hl : l.length = n) (hn : ∀ g, v.ownBlock = some g → ¬ O g) (hs : ∀ y ∈ l, y < 256) : ∃ a cap, v = .slice a n cap ∧ n ≤ cap ∧ cap ≤ 9223372036854775807 ∧ BytesO W O a l := by
  subst hl
  rcases Nat.eq_zero_or_pos l.length with e | e
  · obtain ⟨a, c, rfl, h1, h2⟩ := own_form h
    exact ⟨a, c, rfl, h1, by unfold maxLen at h2; omega, fun k => absurd k (by omega), hs⟩
  · obtain ⟨g, cap, rfl, h1, h2, h3, h4, h5⟩ := own_pos h e
    exact ⟨_, cap, rfl, h1, by unfold maxLen at h2; omega, fun _ => ⟨g, 0, rfl, h4, hn g rfl, fun j hj => by rw [Nat.zero_add]; exact h5 j _ (by simp [byteV, hj])⟩, hs⟩
set_option maxRecDepth 20000 in
set_option maxHeartbeats 8000000 in
theorem finish_read (s : Bk) (ok : s.Ok) (l : List (Rq × Value)) (hsl : l.map (·.1) = s.l) (hl8 : l.length ≤ 90) (v : Value) (id : Nat) {Bi : Nat} {w : World} {B b p c : Nat} {f : Nat → Nat} {O : Nat → Prop} (h : RamB w B b p f c O) (hA : AreasAt w) (hG : 2 < B) (hI : InAt w Bi O v l) (hc9 : c ≤ 600000000) (k : Nat) (q : Rq) (qv : Value) (hz0 : idxQ s.l id = (k : Nat)) (hkq : l[k]? = some (q, qv)) (hql : 0 < q.l.length) (da : Option Addr) (dn dc : Nat) {Bd : Nat} (bl : List Nat) (hbl : bl.length = dn) (hby : ∀ y ∈ bl, y < 256) (hD : w.ownsRow Bd 5 1 (.slice da dn dc) dn (byteV bl)) (hqw : q.wr = false) (hdn : q.n = (dn : Nat)) (hd9 : dn ≤ 2000000) : Calls Tryz.prog 17 #[.agg (s.c v), .pointer (some ⟨b, 0, none⟩), .int .u32 (id : Nat), .bool true, .slice da dn dc] w fun e w' => ∃ v', e = .returned (.tuple #[.agg ((ansV p f s q.hd q.l (bl ++ [0])).2.c v'), .nilIface]) ∧ ∃ l' O', l'.map (·.1) = s.l.eraseIdx k ∧ RamB w' B b p (ansV p f s q.hd q.l (bl ++ [0])).1 (c + q.l.length + 3) O' ∧ Went B O O' w w' ∧ InAt w' w.heap.size O' v' l' := by
  have HFd : Hid (∀ W, Below w.heap.size w W → Calls Tryz.prog 47 #[v, .int .u32 (id : Nat)] W fun e w' => e = .returned (.int .i64 (k : Nat)) ∧ Below W.heap.size W w') := hide (fun W hb => by
    have := bfind_any l (by omega) id (hI.bl hb).row
    rwa [hsl, hz0] at this)
  have HC : Hid (∀ W, Below w.heap.size w W → Calls Tryz.prog 29 #[.agg (s.c v)] W fun e w' => ∃ v', e = .returned (.agg (s.c v')) ∧ ∃ l', l'.map (·.1) = l.map (·.1) ∧ InAt w' W.heap.size (fun _ => False) v' l' ∧ Below W.heap.size W w') := hide (fun W hb => bclone_any s l (by omega) (fun x hx => (ok.l x.1 (by rw [← hsl]; exact List.mem_map_of_mem hx)).ll) (hI.bl hb))
  have hqok : q.Ok := ok.l q (by rw [← hsl]; exact List.mem_map.2 ⟨_, List.mem_of_getElem? hkq, rfl⟩)
  have hkl : k < l.length := (List.getElem?_eq_some_iff.1 hkq).1
  have hL := hI.own _ (List.mem_of_getElem? hkq)
  have hLn := hI.fars _ (List.mem_of_getElem? hkq)
  simp only at hL hLn
  have hqo : qv.oneCell' = true := own_one hL
  have HAn : Hid (∀ W O2 v3 Bl2 dv, v3.oneCell' = true → RamB W B b p f c O2 → AreasAt W → W.ownsRow Bi 103 3 qv q.l.length (segL q.l) → W.ownsRow Bl2 5 1 dv (dn + 1) (byteV (bl ++ [0])) → (∀ g, dv.ownBlock = some g → ¬ O2 g) → Calls Tryz.prog 51 #[.agg (s.c v3), .pointer (some ⟨b, 0, none⟩), .int .i64 q.hd, qv, dv] W fun e w' => e = .returned (.agg ((ansV p f s q.hd q.l (bl ++ [0])).2.c v3)) ∧ ∃ O', RamB w' B b p (ansV p f s q.hd q.l (bl ++ [0])).1 (c + q.l.length + 3) O' ∧ Went B O2 O' W w') := hide (fun W O2 v3 Bl2 dv hv hM hA hL hV hVn => by
    have hln : (bl ++ [0]).length = dn + 1 := by simp [hbl]
    obtain ⟨da2, dc2, rfl, k1, k2, k3⟩ := bytesO_own hV hln hVn (fun y hy => by
      rcases List.mem_append.1 hy with h | h
      · exact hby y h
      · rw [List.mem_singleton.1 h]; decide)
    have := answer_any s ok.p v3 hv q.hd q.l hqok.ll hqok.l (bl ++ [0]) dc2 da2 hM hA hG hL k3 (by omega) k2 (by omega) (by omega)
    rwa [hln] at this)
  obtain ⟨s3, hs3⟩ : ∃ x, (ansV p f s q.hd q.l (bl ++ [0])).2 = x := ⟨_, rfl⟩
  obtain ⟨f3, hf3⟩ : ∃ x, (ansV p f s q.hd q.l (bl ++ [0])).1 = x := ⟨_, rfl⟩
  rw [hs3, hf3] at HAn
  rw [hs3, hf3]
  have HSL := hide hsl
  obtain ⟨gv, cap, cur, rfl, hc1, hc2, _, hLr, hcs, htk⟩ := own_row hI.row (by omega)
  have HMid : Hid ((cur.extract (k * 6) (k * 6 + (q.c qv).size)).toList = (q.c qv).toList) := hide (mid_r htk hkq)
  have hgw : gv < w.heap.size := hLr.lt
  have HD : Hid (∀ W B' v1 l1, l1.map (·.1) = l.map (·.1) → InAt W B' O v1 l1 → Calls Tryz.prog 49 #[v1, .int .i64 (k : Nat), .int .i64 ((k : Int) + 1)] W fun e w' => ∃ v3 g, e = .returned v3 ∧ v1.ownBlock = some g ∧ But1 g W w' ∧ InAt w' B' O v3 (l1.eraseIdx k)) := hide (fun W B' v1 l1 hm hI1 => by
    have hlen : l1.length = l.length := by rw [← List.length_map (f := (·.1)), hm, List.length_map]
    have := del_any l1 (by omega) k (by omega) hI1.ones hI1.row
    rw [show ((k + 1 : Nat) : Int) = (k : Int) + 1 by omega] at this
    refine this.mono ?_
    rintro e w' ⟨v3, rfl, k1, k2, g, k3, k4⟩
    exact ⟨v3, g, rfl, k3, k4, hI1.del k3 k4 k1 k2⟩)
  have HLR := hide hLr
  have i1 : (k : Int) < (l.length : Int) := by omega
  have i2 : (k : Int) + 1 < 9223372036854775808 := by omega
  have t1 : decide ((k : Int) < 0) = false := by simp
  have HCl : Hid (∀ W, W.ownsRow Bd 5 1 (.slice da dn dc) dn (byteV bl) → Calls Tryz.prog 52 #[.slice da dn dc] W fun e w' => ∃ v', e = .returned v' ∧ w'.ownsRow W.heap.size 5 1 v' dn (byteV bl) ∧ Below W.heap.size W w') := hide (fun W h => clone_b dn (byteV bl) (byteV_one _) (by omega) h)
  have HAb : Hid (∀ w, Calls Tryz.prog 48 #[.agg (q.c qv)] w fun e w' => e = .returned (.int .i64 (dn : Nat)) ∧ Below w.heap.size w w') := hide (fun w => by
    have := ansbytes_any q qv w
    rwa [if_neg (by rw [hqw]; decide), hdn] at this)
  obtain ⟨ib, ib1, ib2, ib3, ib4⟩ := info_b
  have HBy := hide hby
  have HBl := hide hbl
  clear hdn hby hbl
  clear hI hsl hz0 hkq htk hcs hLr hs3 hf3
  have hB0 := h.base
  have hGw : 2 < w.heap.size := Nat.lt_of_lt_of_le hG hB0
  have hA0 := hA
  clear hA
  go_enter Tryz.func17, Tryz.ntmps17
  go_upto_region 11 with (first | ((with_reducible refine bx_bk w.heap.size s (.slice (some ⟨gv, 0, none⟩) l.length cap) ?_ ?_ ?_); exact rfl; exact rfl; intro W hr hb hz) | ((with_reducible refine al_bk (w.heap.size + 1) ?_ ?_); exact hz.out; intro W hq hb' hz'; replace hr := hr.bl (hz.out ▸ hb'); replace hb := hb.trans (hb'.mono (by omega)); replace hz := hz'; have hM := h.bl hb; have hW := Went.of (O := O) hb hB0; have hA := hA0.bl hb; have hF := h.far 2; have hS : w.heap.size + 2 ≤ W.heap.size := Nat.le_of_eq hz.out.symm; have hB : B ≤ W.heap.size := Nat.le_trans hB0 hb.size; replace hL := own_bel hL hb; replace hD := own_bel hD hb; have HB := hide hb; clear hb hz hb' hz') | ((with_reducible refine ld_bin w.heap.size s _ _ hr ?_ ?_ ?_); exact rfl; exact rfl) | (go_at_call 47; (with_reducible refine (HFd.out _ HB.out).mono ?_); rintro e W ⟨rfl, hbc⟩; (have hLr := (HLR.out.bl HB.out).bl hbc); (have HB2 := hide (HB.out.trans (hbc.mono HB.out.size))); replace hM := hM.bl hbc; replace hW := hW.bl hbc hB; replace hA := hA.bl hbc; replace hB := Nat.le_trans hB hbc.size; replace hS := Nat.le_trans hS hbc.size; replace hr := hr.bl hbc; replace hq := hq.bl hbc; replace hL := own_bel hL hbc; replace hD := own_bel hD hbc; (obtain ⟨NQ, hNQ0⟩ : ∃ n, W.heap.size = n := ⟨_, rfl⟩); (have hNQ := hide hNQ0); (have hnq : w.heap.size + 2 ≤ NQ := hNQ0 ▸ hS); (have hnO : ¬ O NQ := fun e => absurd (hM.lt NQ e) (by omega)); clear hNQ0 hbc HB) | ((with_reducible refine ld_rm gv (k * 6) q qv cur _ hLr HMid.out ?_ ?_); exact rfl) | ((with_reducible refine al_rq NQ ?_ ?_); exact hNQ.out; intro W hn hb' hz'; have hbc := hNQ.out ▸ hb'; replace HB2 := hide (HB2.out.trans (hbc.mono HB2.out.size)); replace hM := hM.bl hbc; replace hW := hW.bl hbc hB; replace hA := hA.bl hbc; replace hB := Nat.le_trans hB hbc.size; replace hS := Nat.le_trans hS hbc.size; replace hr := hr.bl hbc; replace hq := hq.bl hbc; replace hL := own_bel hL hbc; replace hD := own_bel hD hbc; clear hLr hbc hb' hz') | ((with_reducible refine st_rq NQ _ _ q qv hqo hn ?_ ?_ ?_); exact rfl; exact rfl; intro W hnew ho; replace HB2 := hide (ho.bel _ _ (by omega) HB2.out); replace hr := hr.only ho (by omega); replace hq := hq.only ho (by omega); replace hL := own_only hL ho (fun e => absurd (own_ty hL e hn) (by decide)); replace hD := own_only hD ho (fun e => absurd (own_ty hD e hn) (by decide)); replace hM := hM.only ho hnO; replace hA := hA.onlyR ho (by omega); replace hW := hW.only ho (by omega) (by omega); replace hS := (show w.heap.size + 2 ≤ W.heap.size by rw [ho.size]; exact hS); replace hB := (show B ≤ W.heap.size by rw [ho.size]; exact hB); replace hn := hnew; clear hnew ho) | ((with_reducible refine ld_rq NQ q qv hn ?_ ?_ ?_); exact rfl; exact rfl) | (go_at_call 48; (with_reducible refine (HAb.out _).mono ?_); rintro e W ⟨rfl, hbc⟩; replace HB2 := hide (HB2.out.trans (hbc.mono HB2.out.size)); replace hn := hn.bl hbc; replace hM := hM.bl hbc; replace hW := hW.bl hbc hB; replace hA := hA.bl hbc; replace hB := Nat.le_trans hB hbc.size; replace hS := Nat.le_trans hS hbc.size; replace hr := hr.bl hbc; replace hq := hq.bl hbc; replace hL := own_bel hL hbc; replace hD := own_bel hD hbc; clear hbc) | ((with_reducible refine ld_bk w.heap.size s _ hr ?_ ?_ ?_); exact rfl; exact rfl) | (go_at_call 29; (with_reducible refine (HC.out _ HB2.out).mono ?_); rintro e W3 ⟨v1, rfl, l1, q1, hI1, hbc⟩; clear HB2; (have hv1n : ∀ g, v1.ownBlock = some g → NQ < g := fun g e => Nat.lt_of_lt_of_le hn.lt (hI1.row.lt g e).1); (replace hI1 := hI1.lower hS); (replace hI1 := hI1.off (O' := O) (fun x k => Nat.lt_of_lt_of_le (h.lt x k) (by omega))); (have hv1o := own_one hI1.row); replace hn := hn.bl hbc; replace hM := hM.bl hbc; replace hW := hW.bl hbc hB; replace hA := hA.bl hbc; replace hB := Nat.le_trans hB hbc.size; replace hS := Nat.le_trans hS hbc.size; replace hr := hr.bl hbc; replace hq := hq.bl hbc; replace hL := own_bel hL hbc; replace hD := own_bel hD hbc; clear hbc) | ((with_reducible refine st_bk w.heap.size _ _ s v1 hv1o hr ?_ ?_ ?_); exact rfl; exact rfl; intro W hnew ho; replace hI1 := hI1.only ho (fun e => absurd (hI1.row.lt _ e).1 (by omega)) (fun x hx e => absurd ((hI1.own x hx).lt _ e).1 (by omega)); replace hn := hn.only ho (by omega); replace hL := own_only hL ho (fun e => absurd (own_ty hL e hr) (by decide)); replace hD := own_only hD ho (fun e => absurd (own_ty hD e hr) (by decide)); replace hq := hq.only ho (by omega); replace hM := hM.only ho (hF.at 0 (by omega)); replace hA := hA.onlyR ho (by omega); replace hW := hW.only ho (by omega) (by omega); replace hS := (show w.heap.size + 2 ≤ W.heap.size by rw [ho.size]; exact hS); replace hB := (show B ≤ W.heap.size by rw [ho.size]; exact hB); replace hr := hnew; clear hnew ho) | (go_at_call 49; (with_reducible refine (HD.out _ _ _ _ q1 hI1).mono ?_); rintro e W4 ⟨v3, g3, rfl, hg3, hk3, hI3⟩; (have hg4 := (hI1.row.lt g3 hg3).1); (have hgO := hI1.far g3 hg3); (obtain ⟨cg, hcg⟩ := hI1.rowT g3 hg3); (have hnn : NQ ≠ g3 := Nat.ne_of_lt (hv1n g3 hg3)); replace hr := hk3.rowT hr (by omega); replace hq := hk3.rowT hq (by omega); replace hn := hk3.rowT hn hnn; replace hL := hk3.own hL hcg (by decide); replace hD := hk3.own hD hcg (by decide); replace hM := hk3.ram hM hgO; replace hW := hk3.went hW (by omega) hB0; replace hA := hk3.areas hA (by omega); replace hS := Nat.le_trans hS hk3.size; replace hB := Nat.le_trans hB hk3.size; (have hv3o := own_one hI3.row); clear hI1 hcg hk3 hg3 hv1o hv1n) | ((with_reducible refine st_bin w.heap.size s _ v3 hv3o _ hr ?_ ?_ ?_); exact rfl; exact rfl; intro W hnew ho; replace hI3 := hI3.only ho (fun e => absurd (hI3.row.lt _ e).1 (by omega)) (fun x hx e => absurd ((hI3.own x hx).lt _ e).1 (by omega)); replace hn := hn.only ho (by omega); replace hL := own_only hL ho (fun e => absurd (own_ty hL e hr) (by decide)); replace hD := own_only hD ho (fun e => absurd (own_ty hD e hr) (by decide)); replace hq := hq.only ho (by omega); replace hM := hM.only ho (hF.at 0 (by omega)); replace hA := hA.onlyR ho (by omega); replace hW := hW.only ho (by omega) (by omega); replace hS := (show w.heap.size + 2 ≤ W.heap.size by rw [ho.size]; exact hS); replace hB := (show B ≤ W.heap.size by rw [ho.size]; exact hB); replace hr := hnew; clear hnew ho))
  clear i1 i2 t1
  go_wp2_with (first | ((with_reducible refine ld_qwr NQ q qv 102 hn ?_ ?_ ?_); exact rfl; exact rfl; rw [hqw]))
  refine wp_region_held_drew (S := (fun V => RowAt V w.heap.size (s.c v3) 53 ∧ RowAt V NQ (q.c qv) 102)) (by kernel_rfl) ?_ (fun hHeld => ?_)
  · exact ⟨hr.dr, hn.dr⟩
  replace hM := hM.dr
  replace hW := hW.dr
  replace hA := hA.drR
  replace hS : w.heap.size + 2 ≤ (World.drew _).heap.size := hS
  replace hB : B ≤ (World.drew _).heap.size := hB
  replace hq := hq.dr
  replace hL := own_dr hL
  replace hD := own_dr hD
  replace hI3 := hI3.dr
  generalize World.drew _ = V at hHeld hM hW hA hS hB hq hL hD hI3 ⊢
  clear hr hn
  refine wpAnyH_take (i := 0) (oi := ?oi1) (v := .agg (s.c v3)) ?hi1 (by kernel_rfl) (by kernel_rfl) (by kernel_rfl) ?hQ1 ?hy1 (by assumption) ?rest1
  case hi1 => (simp only [List.getElem?_toArray, List.getElem?_cons_zero]; rfl)
  case hQ1 => exact fun _ _ _ h => h
  case hy1 => exact y_bk w.heap.size s v3 (fun V hV => hV.1) rfl rfl
  simp only [Act.put, List.setIfInBounds_toArray, List.set_cons_zero, List.set_cons_succ]
  refine wpAnyH_take (i := 1) (oi := ?oi2) (v := .pointer (some ⟨b, 0, none⟩)) ?hi2 (by kernel_rfl) (by kernel_rfl) (by kernel_rfl) ?hQ2 ?hy2 (by assumption) ?rest2
  case hi2 => (simp only [List.getElem?_toArray, List.getElem?_cons_zero, List.getElem?_cons_succ]; rfl)
  case hQ2 => exact fun _ _ _ h => h
  case hy2 => exact Or.inl ⟨by rfl, by (intro w hSw; (try dsimp only at hSw); go_simp )⟩
  simp only [Act.put, List.setIfInBounds_toArray, List.set_cons_zero, List.set_cons_succ]
  refine wpAnyH_take (i := 2) (oi := ?oi3) (v := .pointer (some ⟨NQ, 1, none⟩)) ?hi3 (by kernel_rfl) (by kernel_rfl) (by kernel_rfl) ?hQ3 ?hy3 (by assumption) ?rest3
  case hi3 => (simp only [List.getElem?_toArray, List.getElem?_cons_zero, List.getElem?_cons_succ]; rfl)
  case hQ3 => exact fun _ _ _ h => h
  case hy3 => exact Or.inl ⟨by rfl, by (intro w hSw; (try dsimp only at hSw); go_simp )⟩
  simp only [Act.put, List.setIfInBounds_toArray, List.set_cons_zero, List.set_cons_succ]
  refine wpAnyH_take (i := 3) (oi := ?oi4) (v := .int .i64 q.hd) ?hi4 (by kernel_rfl) (by kernel_rfl) (by kernel_rfl) ?hQ4 ?hy4 (by assumption) ?rest4
  case hi4 => (simp only [List.getElem?_toArray, List.getElem?_cons_zero, List.getElem?_cons_succ]; rfl)
  case hQ4 => exact fun _ _ _ h => h
  case hy4 => exact y_qhd NQ q qv _ (fun V hV => hV.2) rfl
  simp only [Act.put, List.setIfInBounds_toArray, List.set_cons_zero, List.set_cons_succ]
  refine wpAnyH_take (i := 4) (oi := ?oi5) (v := .pointer (some ⟨NQ, 5, none⟩)) ?hi5 (by kernel_rfl) (by kernel_rfl) (by kernel_rfl) ?hQ5 ?hy5 (by assumption) ?rest5
  case hi5 => (simp only [List.getElem?_toArray, List.getElem?_cons_zero, List.getElem?_cons_succ]; rfl)
  case hQ5 => exact fun _ _ _ h => h
  case hy5 => exact Or.inl ⟨by rfl, by (intro w hSw; (try dsimp only at hSw); go_simp )⟩
  simp only [Act.put, List.setIfInBounds_toArray, List.set_cons_zero, List.set_cons_succ]
  refine wpAnyH_take (i := 5) (oi := ?oi6) (v := qv) ?hi6 (by kernel_rfl) (by kernel_rfl) (by kernel_rfl) ?hQ6 ?hy6 (by assumption) ?rest6
  case hi6 => (simp only [List.getElem?_toArray, List.getElem?_cons_zero, List.getElem?_cons_succ]; rfl)
  case hQ6 => exact fun _ _ _ h => h
  case hy6 => exact y_ql NQ q qv _ (fun V hV => hV.2) rfl
  simp only [Act.put, List.setIfInBounds_toArray, List.set_cons_zero, List.set_cons_succ]
  refine wpAnyH_take (i := 6) (oi := ?oi7) (v := .slice da dn dc) ?hi7 (by kernel_rfl) (by kernel_rfl) (by kernel_rfl) ?hQ7 ?hy7 (by assumption) ?rest7
  case hi7 => (simp only [List.getElem?_toArray, List.getElem?_cons_zero, List.getElem?_cons_succ]; rfl)
  case hQ7 => exact fun _ _ _ h => h
  case hy7 => exact Or.inl ⟨by rfl, by (intro w hSw; (try dsimp only at hSw); go_simp )⟩
  simp only [Act.put, List.setIfInBounds_toArray, List.set_cons_zero, List.set_cons_succ]
  refine wpAnyH_ready (rs := [7, 8]) (by kernel_rfl) (by simp) ?_
  refine AllReadyH.cons (o := ?oi8) ?hi8 (fun K hK => ?b8) (AllReadyH.cons (o := ?oi9) ?hi9 (fun K hK => ?b9) AllReadyH.nil)
  case hi8 => (simp only [List.getElem?_toArray, List.getElem?_cons_zero, List.getElem?_cons_succ]; rfl)
  case hi9 => (simp only [List.getElem?_toArray, List.getElem?_cons_zero, List.getElem?_cons_succ]; rfl)
  case b8 =>
    rw [if_pos (by rfl)]
    go_simp
    (with_reducible refine (HCl.out _ hD).mono ?_)
    rintro e V2 ⟨cv, rfl, hcv, hbc⟩
    (have hcn : ∀ g, cv.ownBlock = some g → NQ < g ∧ V.heap.size ≤ g := fun g e => ⟨Nat.lt_of_lt_of_le hHeld.2.lt (hcv.lt g e).1, (hcv.lt g e).1⟩)
    (have hco : ∀ g, cv.ownBlock = some g → ¬ O g := fun g e k => absurd (hM.lt g k) (Nat.not_lt.2 (hcv.lt g e).1))
    (have hcS := hbc.size)
    have hH2 := hide (And.intro (hHeld.1.bl hbc) (hHeld.2.bl hbc))
    replace hM := hM.bl hbc
    replace hW := hW.bl hbc hB
    replace hA := hA.bl hbc
    replace hB := Nat.le_trans hB hbc.size
    replace hS := Nat.le_trans hS hbc.size
    replace hq := hq.bl hbc
    replace hL := own_bel hL hbc
    replace hD := own_bel hD hbc
    replace hI3 := hI3.bl hbc
    (try replace hby := hby.bl hbc)
    clear hHeld hbc
    go_simp
    refine hK.out _ _ ?_ (fun hHeld => ?_)
    · exact hH2.out
    clear hK K
    clear hH2
    refine wpAnyH_ready (rs := [8]) (by kernel_rfl) (by simp) ?_
    refine AllReadyH.cons (o := ?oi10) ?hi10 (fun K hK => ?_) AllReadyH.nil
    case hi10 => (simp only [List.getElem?_toArray, List.getElem?_cons_zero, List.getElem?_cons_succ]; rfl)
    rw [if_pos (by rfl)]
    (obtain ⟨NB, hNB0⟩ : ∃ n, V2.heap.size = n := ⟨_, rfl⟩)
    (with_reducible refine s_bsr 37 5 1 Tryz.underlying37 #[.int .u8 (0 : Nat)] NB ?_ [(0, .int .u8 (0 : Nat))] ?_ (bs_byte 0) ?_)
    · exact hNB0
    · first | rfl | (simp; done) | kernel_rfl
    intro V3 hby hbc hz3
    rw [← hNB0] at hbc
    clear hNB0
    have hH2 := hide (And.intro (hHeld.1.bl hbc) (hHeld.2.bl hbc))
    replace hM := hM.bl hbc
    replace hW := hW.bl hbc hB
    replace hA := hA.bl hbc
    replace hB := Nat.le_trans hB hbc.size
    replace hS := Nat.le_trans hS hbc.size
    replace hq := hq.bl hbc
    replace hL := own_bel hL hbc
    replace hD := own_bel hD hbc
    replace hI3 := hI3.bl hbc
    (try replace hcv := own_bel hcv hbc)
    (try replace hcS := Nat.le_trans hcS hbc.size)
    clear hHeld hbc hz3
    refine hK.out _ _ ?_ (fun hHeld => ?_)
    · exact hH2.out
    clear hK K
    clear hH2
    refine wpAnyH_ready (rs := [9]) (by kernel_rfl) (by simp) ?_
    refine AllReadyH.cons (o := ?oi11) ?hi11 (fun K hK => ?_) AllReadyH.nil
    case hi11 => (simp only [List.getElem?_toArray, List.getElem?_cons_zero, List.getElem?_cons_succ]; rfl)
    rw [if_pos (by rfl)]
    (with_reducible refine s_appl 37 5 ib _ 1 1 Tryz.underlying37 ib1 ib2 ib3 ib4 rfl (by decide) hcv ⟨NB, 0, none⟩ 1 1 (byteV [0]) rfl ?_ (byteV_one _) (by unfold maxLen; omega) (by omega) ?_ ?_ ?_ ?_)
    · intro j u hu
      rw [Addr.add_lit, Nat.zero_add]
      have hj0 : j < 1 := by have := (List.getElem?_eq_some_iff.1 hu).1; simpa [byteV] using this
      (obtain rfl : j = 0 := by omega)
      rw [hby.cell 0]
      simpa [byteV] using hu
    · exact hcS
    · exact rfl
    · exact rfl
    intro V6 dv hdv hg hbk
    rw [← byteV_append] at hdv
    have hdo := grow_no hM hco hbk
    have hrT := own_rowT hcv
    have hH2 := hide (And.intro (grow_row hHeld.1 hg (fun e => absurd (hcn _ e).1 (by omega))) (grow_row hHeld.2 hg (fun e => absurd (hcn _ e).1 (by omega))))
    replace hq := grow_row hq hg (fun e => absurd (hcn _ e).1 (by omega))
    replace hM := grow_ram hM hg hco
    replace hW := grow_went hW hg (fun g e => by have := (hcn g e).1; omega) hB0
    replace hA := hA.growR hg (fun g e => by have := (hcn g e).1; omega)
    replace hL := own_grow (cs := #[]) hL hg hrT (by decide)
    replace hI3 := hI3.growU hg hrT
    replace hS := Nat.le_trans hS hg.size
    replace hB := Nat.le_trans hB hg.size
    clear hHeld hcv hby hg hbk hcn hco hrT hD hcS
    refine hK.out _ _ ?_ (fun hHeld => ?_)
    · exact hH2.out
    clear hK K
    clear hH2
    refine wpAnyH_ready (rs := [10]) (by kernel_rfl) (by simp) ?_
    refine AllReadyH.cons (o := ?oi12) ?hi12 (fun K hK => ?_) AllReadyH.nil
    case hi12 => (simp only [List.getElem?_toArray, List.getElem?_cons_zero, List.getElem?_cons_succ]; rfl)
    rw [if_pos (by rfl)]
    go_simp
    (with_reducible refine (HAn.out _ _ _ _ _ hv3o hM hA hL hdv hdo).mono ?_)
    rintro e V4 ⟨rfl, O2, hM2, hW2⟩
    have hH2 := hide (And.intro (hW2.row hHeld.1 (hF.at 0 (by omega))) hW2.size)
    replace hq := hW2.row hq (hF.at 1 (by omega))
    replace hI3 := hI3.went hW2
    replace hA := hA.wentR hG hW2
    replace hF := hF.went hW2 hS
    replace hS := Nat.le_trans hS hW2.size
    replace hW := hW.trans hW2
    replace hB := Nat.le_trans hB hW2.size
    have hH3 := hide (And.intro hH2.out.1 (hW2.row hHeld.2 hnO))
    clear hM hW2 hHeld hL hdv hdo hH2
    go_simp
    refine hK.out _ _ ?_ (fun hHeld => ?_)
    · exact hH3.out
    clear hK K
    clear hH3
    refine wpAnyH_ready (rs := [11]) (by kernel_rfl) (by simp) ?_
    refine AllReadyH.cons (o := ?oi13) ?hi13 (fun K hK => ?_) AllReadyH.nil
    case hi13 => (simp only [List.getElem?_toArray, List.getElem?_cons_zero, List.getElem?_cons_succ]; rfl)
    rw [if_pos (by rfl)]
    (with_reducible refine s_bk (w.heap.size + 1) _ _ s3 v3 hv3o hq ?_ ?_ ?_)
    · exact rfl
    · exact rfl
    intro V5 hnew ho
    have hH2 := hide (And.intro (hHeld.1.only ho (by omega)) (hHeld.2.only ho (by omega)))
    replace hM2 := hM2.only ho (hF.at 1 (by omega))
    replace hW := hW.only ho (by omega) (by omega)
    replace hI3 := hI3.only ho (fun e => absurd (own_ty hI3.row e hq) (by decide)) (fun x hx e => absurd (own_ty (hI3.own x hx) e hq) (by decide))
    clear hHeld ho hq
    refine hK.out _ _ ?_ (fun hHeld => ?_)
    · exact hH2.out
    clear hK K
    clear hH2
    refine wpAnyH_take (i := 12) (oi := ?oi14) (v := .nilIface) ?hi14 (by kernel_rfl) (by kernel_rfl) (by kernel_rfl) ?hQ14 ?hy14 (by assumption) ?rest14
    case hi14 => (simp only [List.getElem?_toArray, List.getElem?_cons_zero, List.getElem?_cons_succ]; rfl)
    case hQ14 => exact fun _ _ _ h => h
    case hy14 => exact Or.inl ⟨by rfl, by (intro w hSw; (try dsimp only at hSw); go_simp )⟩
    simp only [Act.put, List.setIfInBounds_toArray, List.set_cons_zero, List.set_cons_succ]
    refine wpAnyH_done (by kernel_rfl) ?_ _
    go_simp
    go_wp2
    refine bodyPost_ret (results_cell_u Tryz.results17 _ _ (w.heap.size + 1) _ _ _ rfl hnew Tryz.underlying53 rfl size_bk) rfl ?_
    exact ⟨_, rfl, _, _, by rw [map_erase, q1, HSL.out], hM2, hW, hI3.lower (by omega)⟩
  case b9 =>
    rw [if_pos (by rfl)]
    (obtain ⟨NB, hNB0⟩ : ∃ n, V.heap.size = n := ⟨_, rfl⟩)
    (with_reducible refine s_bsr 37 5 1 Tryz.underlying37 #[.int .u8 (0 : Nat)] NB ?_ [(0, .int .u8 (0 : Nat))] ?_ (bs_byte 0) ?_)
    · exact hNB0
    · first | rfl | (simp; done) | kernel_rfl
    intro V3 hby hbc hz3
    rw [← hNB0] at hbc
    clear hNB0
    have hH2 := hide (And.intro (hHeld.1.bl hbc) (hHeld.2.bl hbc))
    replace hM := hM.bl hbc
    replace hW := hW.bl hbc hB
    replace hA := hA.bl hbc
    replace hB := Nat.le_trans hB hbc.size
    replace hS := Nat.le_trans hS hbc.size
    replace hq := hq.bl hbc
    replace hL := own_bel hL hbc
    replace hD := own_bel hD hbc
    replace hI3 := hI3.bl hbc
    (try replace hcv := own_bel hcv hbc)
    (try replace hcS := Nat.le_trans hcS hbc.size)
    clear hHeld hbc hz3
    refine hK.out _ _ ?_ (fun hHeld => ?_)
    · exact hH2.out
    clear hK K
    clear hH2
    refine wpAnyH_ready (rs := [7]) (by kernel_rfl) (by simp) ?_
    refine AllReadyH.cons (o := ?oi15) ?hi15 (fun K hK => ?_) AllReadyH.nil
    case hi15 => (simp only [List.getElem?_toArray, List.getElem?_cons_zero, List.getElem?_cons_succ]; rfl)
    rw [if_pos (by rfl)]
    go_simp
    (with_reducible refine (HCl.out _ hD).mono ?_)
    rintro e V2 ⟨cv, rfl, hcv, hbc⟩
    (have hcn : ∀ g, cv.ownBlock = some g → NQ < g ∧ V3.heap.size ≤ g := fun g e => ⟨Nat.lt_of_lt_of_le hHeld.2.lt (hcv.lt g e).1, (hcv.lt g e).1⟩)
    (have hco : ∀ g, cv.ownBlock = some g → ¬ O g := fun g e k => absurd (hM.lt g k) (Nat.not_lt.2 (hcv.lt g e).1))
    (have hcS := hbc.size)
    have hH2 := hide (And.intro (hHeld.1.bl hbc) (hHeld.2.bl hbc))
    replace hM := hM.bl hbc
    replace hW := hW.bl hbc hB
    replace hA := hA.bl hbc
    replace hB := Nat.le_trans hB hbc.size
    replace hS := Nat.le_trans hS hbc.size
    replace hq := hq.bl hbc
    replace hL := own_bel hL hbc
    replace hD := own_bel hD hbc
    replace hI3 := hI3.bl hbc
    (try replace hby := hby.bl hbc)
    clear hHeld hbc
    go_simp
    refine hK.out _ _ ?_ (fun hHeld => ?_)
    · exact hH2.out
    clear hK K
    clear hH2
    refine wpAnyH_ready (rs := [9]) (by kernel_rfl) (by simp) ?_
    refine AllReadyH.cons (o := ?oi16) ?hi16 (fun K hK => ?_) AllReadyH.nil
    case hi16 => (simp only [List.getElem?_toArray, List.getElem?_cons_zero, List.getElem?_cons_succ]; rfl)
    rw [if_pos (by rfl)]
    (with_reducible refine s_appl 37 5 ib _ 1 1 Tryz.underlying37 ib1 ib2 ib3 ib4 rfl (by decide) hcv ⟨NB, 0, none⟩ 1 1 (byteV [0]) rfl ?_ (byteV_one _) (by unfold maxLen; omega) (by omega) ?_ ?_ ?_ ?_)
    · intro j u hu
      rw [Addr.add_lit, Nat.zero_add]
      have hj0 : j < 1 := by have := (List.getElem?_eq_some_iff.1 hu).1; simpa [byteV] using this
      (obtain rfl : j = 0 := by omega)
      rw [hby.cell 0]
      simpa [byteV] using hu
    · exact hcS
    · exact rfl
    · exact rfl
    intro V6 dv hdv hg hbk
    rw [← byteV_append] at hdv
    have hdo := grow_no hM hco hbk
    have hrT := own_rowT hcv
    have hH2 := hide (And.intro (grow_row hHeld.1 hg (fun e => absurd (hcn _ e).1 (by omega))) (grow_row hHeld.2 hg (fun e => absurd (hcn _ e).1 (by omega))))
    replace hq := grow_row hq hg (fun e => absurd (hcn _ e).1 (by omega))
    replace hM := grow_ram hM hg hco
    replace hW := grow_went hW hg (fun g e => by have := (hcn g e).1; omega) hB0
    replace hA := hA.growR hg (fun g e => by have := (hcn g e).1; omega)
    replace hL := own_grow (cs := #[]) hL hg hrT (by decide)
    replace hI3 := hI3.growU hg hrT
    replace hS := Nat.le_trans hS hg.size
    replace hB := Nat.le_trans hB hg.size
    clear hHeld hcv hby hg hbk hcn hco hrT hD hcS
    refine hK.out _ _ ?_ (fun hHeld => ?_)
    · exact hH2.out
    clear hK K
    clear hH2
    refine wpAnyH_ready (rs := [10]) (by kernel_rfl) (by simp) ?_
    refine AllReadyH.cons (o := ?oi17) ?hi17 (fun K hK => ?_) AllReadyH.nil
    case hi17 => (simp only [List.getElem?_toArray, List.getElem?_cons_zero, List.getElem?_cons_succ]; rfl)
    rw [if_pos (by rfl)]
    go_simp
    (with_reducible refine (HAn.out _ _ _ _ _ hv3o hM hA hL hdv hdo).mono ?_)
    rintro e V4 ⟨rfl, O2, hM2, hW2⟩
    have hH2 := hide (And.intro (hW2.row hHeld.1 (hF.at 0 (by omega))) hW2.size)
    replace hq := hW2.row hq (hF.at 1 (by omega))
    replace hI3 := hI3.went hW2
    replace hA := hA.wentR hG hW2
    replace hF := hF.went hW2 hS
    replace hS := Nat.le_trans hS hW2.size
    replace hW := hW.trans hW2
    replace hB := Nat.le_trans hB hW2.size
    have hH3 := hide (And.intro hH2.out.1 (hW2.row hHeld.2 hnO))
    clear hM hW2 hHeld hL hdv hdo hH2
    go_simp
    refine hK.out _ _ ?_ (fun hHeld => ?_)
    · exact hH3.out
    clear hK K
    clear hH3
    refine wpAnyH_ready (rs := [11]) (by kernel_rfl) (by simp) ?_
    refine AllReadyH.cons (o := ?oi18) ?hi18 (fun K hK => ?_) AllReadyH.nil
    case hi18 => (simp only [List.getElem?_toArray, List.getElem?_cons_zero, List.getElem?_cons_succ]; rfl)
    rw [if_pos (by rfl)]
    (with_reducible refine s_bk (w.heap.size + 1) _ _ s3 v3 hv3o hq ?_ ?_ ?_)
    · exact rfl
    · exact rfl
    intro V5 hnew ho
    have hH2 := hide (And.intro (hHeld.1.only ho (by omega)) (hHeld.2.only ho (by omega)))
    replace hM2 := hM2.only ho (hF.at 1 (by omega))
    replace hW := hW.only ho (by omega) (by omega)
    replace hI3 := hI3.only ho (fun e => absurd (own_ty hI3.row e hq) (by decide)) (fun x hx e => absurd (own_ty (hI3.own x hx) e hq) (by decide))
    clear hHeld ho hq
    refine hK.out _ _ ?_ (fun hHeld => ?_)
    · exact hH2.out
    clear hK K
    clear hH2
    refine wpAnyH_take (i := 12) (oi := ?oi19) (v := .nilIface) ?hi19 (by kernel_rfl) (by kernel_rfl) (by kernel_rfl) ?hQ19 ?hy19 (by assumption) ?rest19
    case hi19 => (simp only [List.getElem?_toArray, List.getElem?_cons_zero, List.getElem?_cons_succ]; rfl)
    case hQ19 => exact fun _ _ _ h => h
    case hy19 => exact Or.inl ⟨by rfl, by (intro w hSw; (try dsimp only at hSw); go_simp )⟩
    simp only [Act.put, List.setIfInBounds_toArray, List.set_cons_zero, List.set_cons_succ]
    refine wpAnyH_done (by kernel_rfl) ?_ _
    go_simp
    go_wp2
    refine bodyPost_ret (results_cell_u Tryz.results17 _ _ (w.heap.size + 1) _ _ _ rfl hnew Tryz.underlying53 rfl size_bk) rfl ?_
    exact ⟨_, rfl, _, _, by rw [map_erase, q1, HSL.out], hM2, hW, hI3.lower (by omega)⟩
end Go.Proofs.YtaaiockiojejeaaGreatDoor
namespace Go.Proofs.YtaaiockiojejeaaGreatDoor
open Go.RowKit
set_option linter.unusedVariables false
set_option linter.unusedSimpArgs false

variable {ops : Array Oper} {rest : List Oper} {dst : Option Tmp} {ty : TypeId} {pos : String} {after : Array Edge} {a : Act} {w : World} {Q : Exit → Act → World → Prop} {K : Act → World → Prop} {x y : Operand} {gd : Option (Nat × Bool)}
theorem ldc_u32 (b j : Nat) (v : Int) (cur : Array Value) (t' : TypeId) (hr : RowAt w b cur t') (hc : cur[j]? = some (.int .u32 v)) (hx : a.eval x = .pointer (some ⟨b, j, none⟩)) (hw : Region.wanted ⟨dst, .load 22 x, ty, pos, after, gd⟩ (yielded ops a.tmps) = true)
    (k : wpList Tryz.prog ops Q rest (a.put dst (.int .u32 v)) w) : wpList Tryz.prog ops Q (⟨dst, .load 22 x, ty, pos, after, gd⟩ :: rest) a w :=
  op_load_cellg b j hx cur _ _ hr hc _ Tryz.underlying22 rfl hw k
theorem ldc_int (b j : Nat) (v : Int) (cur : Array Value) (t' : TypeId) (hr : RowAt w b cur t') (hc : cur[j]? = some (.int .i64 v)) (hx : a.eval x = .pointer (some ⟨b, j, none⟩)) (hw : Region.wanted ⟨dst, .load 3 x, ty, pos, after, gd⟩ (yielded ops a.tmps) = true)
    (k : wpList Tryz.prog ops Q rest (a.put dst (.int .i64 v)) w) : wpList Tryz.prog ops Q (⟨dst, .load 3 x, ty, pos, after, gd⟩ :: rest) a w :=
  op_load_cellg b j hx cur _ _ hr hc _ Tryz.underlying3 rfl hw k
theorem ldc_bool (b j : Nat) (v : Bool) (cur : Array Value) (t' : TypeId) (hr : RowAt w b cur t') (hc : cur[j]? = some (.bool v)) (hx : a.eval x = .pointer (some ⟨b, j, none⟩)) (hw : Region.wanted ⟨dst, .load 4 x, ty, pos, after, gd⟩ (yielded ops a.tmps) = true)
    (k : wpList Tryz.prog ops Q rest (a.put dst (.bool v)) w) : wpList Tryz.prog ops Q (⟨dst, .load 4 x, ty, pos, after, gd⟩ :: rest) a w :=
  op_load_cellg b j hx cur _ _ hr hc _ Tryz.underlying4 rfl hw k
/-- Bytes that are made: a list of one's own. -/
theorem made_b (w : World) (n : Nat) (hn : n ≤ 1000000) : (Instr.makeSlice 37 (.int .i64 (n : Nat)) (.int .i64 (n : Nat))).run Tryz.prog w = .ok (.slice (some ⟨w.heap.size, 0, none⟩) n n) (w.alloc (.cells (madeCells #[.int .u8 0] n) 5)) := by
  obtain ⟨i, h1, h2, h3, h4⟩ := info_b
  have hr := run_make (P := Tryz.prog) w 37 5 i _ Tryz.underlying37 h1 h2 .i64 .i64 (n : Int) (n : Int) (by omega) (Int.le_refl _) (by rw [h4]; omega) (by omega)
  rw [Int.toNat_natCast, h3, Nat.mul_one] at hr
  exact hr
theorem made_own (w : World) (n : Nat) (hn : n ≤ 1000000) : (w.alloc (.cells (madeCells #[.int .u8 0] n) 5)).ownsRow w.heap.size 5 1 (.slice (some ⟨w.heap.size, 0, none⟩) n n) n (byteV (List.replicate n 0)) := by
  have h := World.ownsRow_lit (e := 5) (size := 1) w (madeCells #[.int .u8 0] n) n (Nat.le_refl _) (by unfold maxLen; omega) (by rw [size_madeCells, Nat.mul_one])
  rw [toList_madeCells_one] at h
  have e : byteV (List.replicate n 0) = List.replicate n (.int .u8 0) := by unfold byteV; rw [List.map_replicate]; rfl
  rw [e]; exact h
theorem s_mkb (n : Nat) (hn : n ≤ 1000000) (N : Nat) (hN : w.heap.size = N) (hx : a.eval x = .int .i64 (n : Nat)) (hy : a.eval y = .int .i64 (n : Nat))
    (k : ∀ W, W.ownsRow N 5 1 (.slice (some ⟨N, 0, none⟩) n n) n (byteV (List.replicate n 0)) → Below N w W → Hid (W.heap.size = N + 1) → K (a.put dst (.slice (some ⟨N, 0, none⟩) n n)) W) :
    Oper.wp Tryz.prog ⟨dst, .makeSlice 37 x y, ty, pos, after, none⟩ a w K Q := by
  subst hN
  have : (execOp a.eval ⟨dst, .makeSlice 37 x y, ty, pos, after, none⟩).run Tryz.prog w = .ok (.value (.slice (some ⟨w.heap.size, 0, none⟩) n n)) (w.alloc (.cells (madeCells #[.int .u8 0] n) 5)) := by
    unfold execOp
    simp only [hx, hy, Sem.run_bind, made_b w n hn, Result.andThen_ok, Sem.run_pure]
  unfold Oper.wp
  rw [this, Oper.upon_value]
  exact k _ (made_own w n hn) (below_one w _) (hide (by simp))
/-- What is asked for, when it is one. -/
theorem asks_one {W : World} {B : Nat} {O : Nat → Prop} {av dv : Value} {k : Ak} (h : AsksAt W B O av [(k, dv)]) : ∃ g cap cur, av = .slice (some ⟨g, 0, none⟩) 1 cap ∧ B ≤ g ∧ ¬ O g ∧ RowAt W g cur 81 ∧ cur[0]? = some (.int .u32 (k.id : Nat)) ∧ cur[1]? = some (.bool k.wr) ∧ cur[2]? = some (.int .u32 (k.se : Nat)) ∧ cur[3]? = some (.int .i64 k.n) ∧ cur[4]? = some dv := by
  obtain ⟨g, cap, cur, rfl, _, _, hb, hr, hs, ht⟩ := own_row h.row (by show 0 < 1; decide)
  have hcl : ∀ i, i < 5 → cur[i]? = (k.c dv)[i]? := fun i hi => by
    have e1 : (cur.toList.take ([(k, dv)].length * 5))[i]? = cur[i]? := by
      rw [List.getElem?_take, if_pos (by show i < 1 * 5; omega), Array.getElem?_toList]
    rw [← e1, ht]
    show ((k.c dv).toList ++ [])[i]? = _
    rw [List.append_nil, Array.getElem?_toList]
  exact ⟨g, cap, cur, rfl, hb, h.far g rfl, hr, hcl 0 (by decide), hcl 1 (by decide), hcl 2 (by decide), hcl 3 (by decide), hcl 4 (by decide)⟩
theorem map_one {α β : Type} {l : List (α × β)} {x : α} (h : l.map (·.1) = [x]) : ∃ y, l = [(x, y)] := by
  rcases l with _ | ⟨⟨a, b⟩, _ | ⟨c, t⟩⟩
  · cases h
  · simp only [List.map_cons, List.map_nil, List.cons.injEq, and_true] at h; exact ⟨b, by rw [h]⟩
  · simp at h
theorem in_one {W : World} {B : Nat} {O : Nat → Prop} {v qv : Value} {q : Rq} (h : InAt W B O v [(q, qv)]) : ∃ a c, v = .slice a 1 c := by
  obtain ⟨a, c, e, _, _⟩ := own_form h.row
  exact ⟨a, c, e⟩
theorem in_none {W : World} {B : Nat} {O : Nat → Prop} {v : Value} (h : InAt W B O v []) : ∃ a c, v = .slice a 0 c := by
  obtain ⟨a, c, e, _, _⟩ := own_form h.row
  exact ⟨a, c, e⟩
theorem map_none {α β : Type} {l : List (α × β)} (h : l.map (·.1) = []) : l = [] := by cases l; rfl; cases h
theorem lR_ok {la pu : Nat} (h1 : la < 65536) (h2 : pu < 65536) : (lR la pu).Ok := ⟨by show (_ : Int) ≤ 4; decide, by show (4 : Int) ≤ _; decide, by show 2147483648 < _; decide, by show 2147483904 < _; decide, by show 2147484160 < _; decide, h1, h2⟩
theorem lvP_ok {la pu ir : Nat} (h1 : la < 65536) (h2 : pu < 65536) (h3 : ir < 4294967296) : (lvP la pu ir).Ok := ⟨by show 15 < _; decide, by show 0 < _; decide, by show 0 < _; decide, by show 0 < _; decide, h3, by show 0 < _; decide, by show 1 < _; decide, lR_ok h1 h2, zeroRg_ok⟩
theorem lvS_ok : lvS.Ok := ⟨lvP_ok (by decide) (by decide) (by decide), by show 100 < _; decide, by show 0 < _; decide, fun q h => (by cases h), by show 0 ≤ _; decide⟩
/-- Poll of the disk that works, when one request comes of it. -/
theorem poll_lv {W : World} {B b c : Nat} {f : Nat → Nat} {O : Nat → Prop} (hM : RamB W B b 2 f c O) (hA : AreasAt W) (hG : 2 < B) (hc : c ≤ 1000) {s : Bk} {q : Rq} {k : Ak} (hp : polV 2 f lvS = ⟨f, s, [k]⟩) (hs : s.l = [q]) :
    Calls Tryz.prog 12 #[.agg (lvS.c nilS), .pointer (some ⟨b, 0, none⟩)] W fun e w' => ∃ v' av qv dv O', e = .returned (.tuple #[.agg (s.c v'), av]) ∧ RamB w' B b 2 f (c + 262144) O' ∧ Went B O O' W w' ∧ InAt w' W.heap.size O' v' [(q, qv)] ∧ AsksAt w' W.heap.size O' av [(k, dv)] := by
  have h := poll_any lvS lvS_ok [] rfl (by decide) nilS hM hA hG (InAt.nil W 0 O) (by omega)
  rw [hp] at h
  refine h.mono ?_
  rintro e w' ⟨v', av, rfl, l', O', al, h1, h2, h3, h4, h5, h6⟩
  simp only at h1 h2 h6
  rw [hs] at h1
  obtain ⟨qv, rfl⟩ := map_one h1
  obtain ⟨dv, rfl⟩ := map_one h6
  exact ⟨v', av, qv, dv, O', rfl, h2, h3, h4, h5⟩
end Go.Proofs.YtaaiockiojejeaaGreatDoor
