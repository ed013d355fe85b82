/-
  What blk's writtenOf answers.
-/
import Derived.Test.YtaaiockiojejeaaGreatDoorJR10
import Derived.Test.YtaaiockiojejeaaGreatDoorJR27
import Derived.Test.YtaaiockiojejeaaGreatDoorJR25
namespace Go.Proofs.YtaaiockiojejeaaGreatDoor
open Go.RowKit
set_option linter.unusedVariables false
set_option linter.unusedSimpArgs false

variable {P : Program} {ops : Array Oper} {rest : List Oper} {dst : Option Tmp} {ty t : TypeId} {pos : String} {after : Array Edge} {a : Act} {w : World} {Q : Exit → Act → World → Prop} {x y : Operand} {B : Nat} {v : Value} {gd : Option (Nat × Bool)} {K : Act → World → Prop}
/-- A cell is read, as a step of a region. -/
theorem s_ldc (b j : Nat) (hx : a.eval x = .pointer (some ⟨b, j, none⟩)) (cs : Array Value) (v : Value) (t' : TypeId) (hr : RowAt w b cs t') (hv : cs[j]? = some v) (d : TypeDesc) (hu : P.underlying t = some d) (hd : d.isRow = false)
    (k : K (a.put dst v) w) : Oper.wp P ⟨dst, .load t x, ty, pos, after, none⟩ a w K Q := by
  have hcell : w.cell? ⟨b, j, none⟩ = some v := (hr.cell j).trans hv
  have hrun : (loadVar t ⟨b, j, none⟩).run P w = .ok v w := by
    have hagg : (isAgg t).run P w = .ok false w := by
      unfold isAgg
      rw [Sem.run_bind, run_underlying hu w]
      cases d <;> simp_all
    simp [loadVar, Sem.run_bind, hagg, hcell]
  unfold Oper.wp execOp
  simp only [hx, Instr.loadAt, Instr.sureAddr, Sem.run_bind, Sem.run_pure, Result.andThen_ok, hrun]
  exact k
/-- A cell is stored, as a step of a region. -/
theorem s_stc (b j : Nat) (hx : a.eval x = .pointer (some ⟨b, j, none⟩)) (v : Value) (hy : a.eval y = v) (old : Array Value) (t' : TypeId) (hr : RowAt w b old t') (hi : (P.info? t).map (·.size) = some 1) (hs : j < old.size) (h1 : v.oneCell' = true)
    (k : ∀ W, RowAt W b (old.setIfInBounds j v) t' → Only b w W → K (a.put dst undef) W) : Oper.wp P ⟨dst, .store t x y, ty, pos, after, none⟩ a w K Q := by
  have hth := hr.thereAt j 1 (by omega)
  have := run_storeCells_cells (P := P) b j [v] 0 w (fun i hi => by simpa using (hth i (by simpa using hi)).1) (fun i hi => by simpa using (hth i (by simpa using hi)).2) (fun u hu => by simp at hu; subst hu; exact h1)
  have hc : v.cells = #[v] := by cases v <;> first | rfl | cases h1
  have hrun : (storeVar t ⟨b, j, none⟩ v).run P w = .ok () (w.setCells b j [v]) := by
    cases hq : P.info? t with
    | none => simp [hq] at hi
    | some i =>
      have hs : i.size = 1 := by simp [hq] at hi; omega
      simp only [Nat.add_zero] at this
      simp [storeVar, sizeOf, typeInfo, hq, hc, hs, this]
  unfold Oper.wp execOp
  simp only [hx, hy, Instr.storeAt, Instr.sureAddr, Sem.run_bind, Sem.run_pure, Result.andThen_ok, hrun]
  exact k _ (hr.put j v) (only_setCells b j [v] w)
theorem own_ty {w : World} {B e sz n g : Nat} {v : Value} {xs : List Value} {cs : Array Value} {t : TypeId} (h : w.ownsRow B e sz v n xs) (hg : v.ownBlock = some g) (hr : RowAt w g cs t) : t = e := by
  rcases h.2 with ⟨h1, _⟩ | ⟨g', cap, cur, h1, _, h3, _⟩
  · subst h1; cases hg
  · subst h1
    cases hg
    have := hr.symm.trans h3
    simp at this
    exact this.2
theorem own_set {w W : World} {B e sz n g j : Nat} {v u : Value} {xs : List Value} {cur : Array Value} (h : w.ownsRow B e sz v n xs) (hg : v.ownBlock = some g) (hr : RowAt w g cur e) (hw : RowAt W g (cur.setIfInBounds j u) e) : W.ownsRow B e sz v n (xs.set j u) := by
  refine ⟨by rw [List.length_set]; exact h.1, ?_⟩
  rcases h.2 with ⟨h1, h2⟩ | ⟨g', cap, cur', h1, h2, h3, h4, h5, h6, h7⟩
  · subst h1; cases hg
  · subst h1
    cases hg
    have e1 := hr.symm.trans h3
    simp at e1
    subst e1
    refine .inr ⟨g', cap, cur.setIfInBounds j u, rfl, h2, hw, h4, h5, by simpa using h6, ?_⟩
    rw [Array.toList_setIfInBounds, List.take_set, h7]
theorem reqL_set : ∀ (l : List (Rq × Value)) (k : Nat) (q : Rq) (v u : Value), l[k]? = some (q, v) → (reqL l).set (k * 6 + 5) u = reqL (l.set k (q, u))
  | [], k, q, v, u, h => by simp at h
  | x :: t, 0, q, v, u, h => by
    simp only [List.getElem?_cons_zero, Option.some.injEq] at h
    subst h
    show ((q.c v).toList ++ reqL t).set 5 u = (q.c u).toList ++ reqL t
    rw [List.set_append_left _ _ (by show 5 < 6; decide)]
    rfl
  | x :: t, k + 1, q, v, u, h => by
    have ih := reqL_set t k q v u (by simpa using h)
    show ((x.1.c x.2).toList ++ reqL t).set ((k + 1) * 6 + 5) u = (x.1.c x.2).toList ++ reqL (t.set k (q, u))
    rw [List.set_append_right _ _ (by show 6 ≤ _; omega), show (k + 1) * 6 + 5 - (x.1.c x.2).toList.length = k * 6 + 5 by show (k + 1) * 6 + 5 - 6 = _; omega, ih]
theorem InAt.off {w : World} {B : Nat} {O O' : Nat → Prop} {v : Value} {l : List (Rq × Value)} (h : InAt w B O v l) (hO : ∀ x, O' x → x < B) : InAt w B O' v l :=
  ⟨h.row, h.own, fun g hg k => absurd (hO g k) (by have := (h.row.lt g hg).1; omega), fun x hx g hg k => absurd (hO g k) (by have := ((h.own x hx).lt g hg).1; omega)⟩
/-- The first k have parts of their own from N on; the others what they had. -/
structure Half (w w0 : World) (N B : Nat) (l xs : List (Rq × Value)) (k : Nat) : Prop where
  len : xs.length = l.length
  fst : xs.map (·.1) = l.map (·.1)
  new : ∀ j x, j < k → xs[j]? = some x → w.ownsRow N 103 3 x.2 x.1.l.length (segL x.1.l)
  old : ∀ j x, k ≤ j → xs[j]? = some x → l[j]? = some x
  one : ∀ x ∈ xs, x.2.oneCell' = true
theorem Half.bl {w w' w0 : World} {N B k : Nat} {l xs : List (Rq × Value)} (h : Half w w0 N B l xs k) (hb : Below w.heap.size w w') : Half w' w0 N B l xs k :=
  ⟨h.len, h.fst, fun j x hj hx => own_bel (h.new j x hj hx) hb, h.old, h.one⟩
theorem Half.step {w W w0 : World} {N B k g : Nat} {l xs : List (Rq × Value)} {q : Rq} {v u : Value} {cs : Array Value} (h : Half w w0 N B l xs k) (hk : xs[k]? = some (q, v)) (hu : w.ownsRow N 103 3 u q.l.length (segL q.l)) (hr : RowAt w g cs 102) (ho : Only g w W) : Half W w0 N B l (xs.set k (q, u)) (k + 1) := by
  have hg : ∀ {v n ys}, w.ownsRow N 103 3 v n ys → v.ownBlock ≠ some g := fun h e => absurd (own_ty h e hr) (by decide)
  have hkl := (List.getElem?_eq_some_iff.1 hk).1
  refine ⟨by rw [List.length_set]; exact h.len, ?_, fun j x hj hx => ?_, fun j x hj hx => ?_, fun x hx => ?_⟩
  · rw [← h.fst, List.map_set]
    apply List.ext_getElem?
    intro j
    rw [List.getElem?_set]
    by_cases e : k = j
    · subst e
      rw [if_pos rfl, if_pos (by simpa using hkl), List.getElem?_map, hk]; rfl
    · rw [if_neg e]
  · rw [List.getElem?_set] at hx
    by_cases e : k = j
    · rw [if_pos e, if_pos hkl] at hx
      cases hx
      exact own_only hu ho (hg hu)
    · rw [if_neg e] at hx
      have := h.new j x (by omega) hx
      exact own_only this ho (hg this)
  · rw [List.getElem?_set, if_neg (by omega)] at hx
    exact h.old j x (by omega) hx
  · rcases List.mem_or_eq_of_mem_set hx with h1 | h1
    · exact h.one x h1
    · rw [h1]; exact own_one hu
set_option maxHeartbeats 4000000 in
theorem bclone_any (s : Bk) (l : List (Rq × Value)) (hl : l.length ≤ 1000) (hll : ∀ x ∈ l, x.1.l.length ≤ 1000) {w : World} {B : Nat} {O : Nat → Prop} {v : Value} (h : InAt w B O v l) :
    Calls Tryz.prog 29 #[.agg (s.c v)] w fun e w' => ∃ v', e = .returned (.agg (s.c v')) ∧ ∃ l', l'.map (·.1) = l.map (·.1) ∧ InAt w' w.heap.size (fun _ => False) v' l' ∧ Below w.heap.size w w' := by
  have HC : Hid (∀ W, Below w.heap.size w W → Calls Tryz.prog 63 #[v] W fun e w' => ∃ v', e = .returned v' ∧ w'.ownsRow W.heap.size 102 6 v' l.length (reqL l) ∧ Below W.heap.size W w') := hide (fun W hb => clone_r l.length (reqL l) h.ones (by omega) (own_bel h.row hb))
  have hv1 := own_one h.row
  have HH := hide h
  obtain ⟨n, hn⟩ : ∃ n, l.length = n := ⟨_, rfl⟩
  have HN := hide hn
  rw [hn] at HC hl
  clear h hn
  go_enter Tryz.func29, Tryz.ntmps29
  go_wp2_with (first | ((with_reducible refine bx_bk w.heap.size s v ?_ ?_ ?_); exact rfl; exact rfl; intro W hr hb hz) | ((with_reducible refine al_bk (w.heap.size + 1) ?_ ?_); exact hz.out; intro W hq hb' hz'; replace hr := hr.bl (hz.out ▸ hb'); replace hb := hb.trans (hb'.mono (by omega)); replace hz := hz'; have hS : w.heap.size + 2 ≤ W.heap.size := Nat.le_of_eq hz.out.symm; clear hz hz' hb') | ((with_reducible refine ld_bin w.heap.size s _ _ hr ?_ ?_ ?_); exact rfl; exact rfl) | (go_at_call 63; (with_reducible refine (HC.out _ hb).mono ?_); rintro e W2 ⟨v1, rfl, hv, hbc⟩; replace hv := own_lower2 hv hS; obtain ⟨a1, c1, rfl, hc1, hc2⟩ := own_form hv; replace hr := hr.bl hbc; replace hq := hq.bl hbc; replace hb := hb.trans (hbc.mono hb.size); replace hS := Nat.le_trans hS hbc.size; clear hbc) | ((with_reducible refine st_bin w.heap.size s _ (.slice a1 n c1) rfl _ hr ?_ ?_ ?_); exact rfl; exact rfl; intro W hnew ho; replace hq := hq.only ho (by omega); replace hv := own_only hv ho (fun e => absurd (hv.lt _ e).1 (by omega)); replace hb := ho.bel _ _ (by omega) hb; replace hS := (show w.heap.size + 2 ≤ W.heap.size by rw [ho.size]; exact hS); replace hr := hnew; clear hnew ho))
  go_loopw [11] (fun iv wr => ∃ (k : Nat) (xs : List (Rq × Value)), k ≤ n ∧ iv = .int .i64 (k : Nat) ∧ RowAt wr w.heap.size (s.c (.slice a1 n c1)) 53 ∧ RowAt wr (w.heap.size + 1) (zeroBk.c nilS) 53 ∧ wr.ownsRow (w.heap.size + 2) 102 6 (.slice a1 n c1) n (reqL xs) ∧ Half wr w (w.heap.size + 2) B l xs k ∧ Below w.heap.size w wr ∧ w.heap.size + 2 ≤ wr.heap.size) (fun iv _ => n - (intOf iv).toNat)
  case atStart => exact ⟨0, l, Nat.zero_le _, rfl, hr, hq, hv, ⟨rfl, rfl, fun j x hj => absurd hj (by omega), fun j x _ hx => hx, fun x hx => own_one (HH.out.own x hx)⟩, hb, hS⟩
  case round =>
    clear hr hq hv hb hS HC
    obtain ⟨k, xs, hk, rfl, hr, hq, hv, hX, hb, hS⟩ := hrel
    by_cases hlt : k < n
    · obtain ⟨gb, cap', cur, hve, _, _, hgB, hLr, hcs, htk⟩ := own_row hv (show 0 < n by omega)
      obtain ⟨rfl, rfl⟩ : a1 = some ⟨gb, 0, none⟩ ∧ c1 = cap' := by injection hve with e1 e2 e3; exact ⟨e1, e3⟩
      have hxl := hX.len
      rw [HN.out] at hxl
      obtain ⟨⟨q, u⟩, hx⟩ : ∃ x, xs[k]? = some x := ⟨_, List.getElem?_eq_getElem (by rw [hxl]; exact hlt)⟩
      have hlx := hX.old k _ (Nat.le_refl _) hx
      have hmem := List.mem_of_getElem? hlx
      have HO := hide (HH.out.own _ hmem)
      have hql := hll _ hmem
      simp only at hql
      have HK := hide hlx
      have HXk := hide hx
      have hcu : cur[k * 6 + 5]? = some u := by
        have := reqL_at xs k _ hx 5 (by decide)
        rw [← htk, List.getElem?_take] at this
        split at this
        · rw [← Array.getElem?_toList]; exact this
        · simp [Rq.at5] at this
      have HCU := hide hcu
      have hcl : k * 6 + 5 < cur.size := by rw [hcs]; omega
      have HCS : Hid (∀ W, Below w.heap.size w W → Calls Tryz.prog 64 #[u] W fun e w' => ∃ v', e = .returned v' ∧ w'.ownsRow W.heap.size 103 3 v' q.l.length (segL q.l) ∧ Below W.heap.size W w') := hide (fun W hb => clone_s q.l.length (segL q.l) (segL_ones _) (by omega) (own_bel HO.out hb))
      have hgb2 : gb < wr.heap.size := hLr.lt
      have HV := hide hv
      have HXX := hide hX
      have HHS := hide hxl
      clear hlx hmem hx hcu htk hve hv hX hxl
      go_wp2_with (fail)
      refine wp_region_held_drew (S := (fun V => RowAt V w.heap.size (s.c (.slice (some ⟨gb, 0, none⟩) n c1)) 53)) (by kernel_rfl) ?_ (fun hHeld => ?_)
      · exact hr.dr
      have hdb : Below wr.heap.size wr wr.drew := (Below.refl _ _).drew
      replace hq := hq.dr
      replace hLr := hLr.dr
      replace HV := hide (own_dr HV.out)
      replace HXX := hide (HXX.out.bl hdb)
      replace hb := hb.drew
      replace hS : w.heap.size + 2 ≤ wr.drew.heap.size := hS
      replace hgb2 : gb < wr.drew.heap.size := hgb2
      generalize wr.drew = V at hHeld hq hLr HV HXX hb hS hgb2 ⊢
      clear hr hdb
      refine tkO 0 (.pointer (some ⟨w.heap.size, 24, none⟩)) (by simp only [gT, gZ]; rfl) (puO (by (intro w hSw; (try dsimp only at hSw); go_simp))) ?_
      simp only [Act.put, pA, pZ, pS]
      refine tkO 1 (.slice (some ⟨gb, 0, none⟩) n c1) (by simp only [gT, gZ, gS]; rfl) (y_bin w.heap.size s _ _ (fun V hV => hV) rfl) ?_
      simp only [Act.put, pA, pZ, pS]
      refine tkO 2 (.int .i64 (k : Nat)) (by simp only [gT, gZ, gS]; rfl) (puO (by (intro w hSw; (try dsimp only at hSw); go_simp))) ?_
      simp only [Act.put, pA, pZ, pS]
      refine tkO 3 (.pointer (some ⟨w.heap.size, 24, none⟩)) (by simp only [gT, gZ, gS]; rfl) (puO (by (intro w hSw; (try dsimp only at hSw); go_simp))) ?_
      simp only [Act.put, pA, pZ, pS]
      refine tkO 4 (.slice (some ⟨gb, 0, none⟩) n c1) (by simp only [gT, gZ, gS]; rfl) (y_bin w.heap.size s _ _ (fun V hV => hV) rfl) ?_
      simp only [Act.put, pA, pZ, pS]
      refine tkO 5 (.int .i64 (k : Nat)) (by simp only [gT, gZ, gS]; rfl) (puO (by (intro w hSw; (try dsimp only at hSw); go_simp))) ?_
      simp only [Act.put, pA, pZ, pS]
      refine tkO 6 (.pointer (some ⟨gb, k * 6, none⟩)) (by simp only [gT, gZ, gS]; rfl) (puO (by (intro w hSw; (try dsimp only at hSw); go_simp))) ?_
      simp only [Act.put, pA, pZ, pS]
      refine tkO 7 (.pointer (some ⟨gb, k * 6 + 5, none⟩)) (by simp only [gT, gZ, gS]; rfl) (puO (by (intro w hSw; (try dsimp only at hSw); go_simp))) ?_
      simp only [Act.put, pA, pZ, pS]
      refine skO 8 (by simp only [gT, gZ, gS]; rfl) (fun K hK => ?_)
      rw [if_pos (by rfl)]
      (with_reducible refine s_ldc gb (k * 6 + 5) ?_ cur u _ hLr HCU.out _ Tryz.underlying100 ?_ ?_)
      · exact rfl
      · exact rfl
      refine hK.out _ _ ?_ (fun hHeld => ?_)
      · exact hHeld
      clear hK K
      refine skO 9 (by simp only [gT, gZ, gS]; rfl) (fun K hK => ?_)
      rw [if_pos (by rfl)]
      go_simp
      (with_reducible refine (HCS.out _ hb).mono ?_)
      rintro e V2 ⟨u2, rfl, hu2, hbc⟩
      have hH2 := hide (hHeld.bl hbc)
      replace hq := hq.bl hbc
      replace hLr := hLr.bl hbc
      replace HV := hide (own_bel HV.out hbc)
      replace HXX := hide (HXX.out.bl hbc)
      replace hb := hb.trans (hbc.mono hb.size)
      have hu3 := own_lower2 hu2 hS
      replace hgb2 := Nat.lt_of_lt_of_le hgb2 hbc.size
      replace hS := Nat.le_trans hS hbc.size
      obtain ⟨ua, uc, rfl, _, _⟩ := own_form hu2
      have HU := hide hu3
      clear hHeld hbc hu2 hu3
      go_simp
      refine hK.out _ _ ?_ (fun hHeld => ?_)
      · exact hH2.out
      clear hK K
      clear hH2
      refine tkO 10 (.pointer (some ⟨gb, k * 6, none⟩)) (by simp only [gT, gZ, gS]; rfl) (puO (by (intro w hSw; (try dsimp only at hSw); go_simp))) ?_
      simp only [Act.put, pA, pZ, pS]
      refine tkO 11 (.pointer (some ⟨gb, k * 6 + 5, none⟩)) (by simp only [gT, gZ, gS]; rfl) (puO (by (intro w hSw; (try dsimp only at hSw); go_simp))) ?_
      simp only [Act.put, pA, pZ, pS]
      refine skO 12 (by simp only [gT, gZ, gS]; rfl) (fun K hK => ?_)
      rw [if_pos (by rfl)]
      (with_reducible refine s_stc gb (k * 6 + 5) ?_ (.slice ua q.l.length uc) ?_ cur _ hLr size_slS hcl ?_ ?_)
      · exact rfl
      · exact rfl
      · exact rfl
      intro V3 hnew ho
      have hH2 := hide (hHeld.only ho (by omega))
      replace hq := hq.only ho (by omega)
      have HV2 := hide (own_set HV.out rfl hLr hnew)
      have HX2 := hide (HXX.out.step HXk.out HU.out hLr ho)
      rw [reqL_set xs k q u _ HXk.out] at HV2
      replace hb := ho.bel _ _ (by omega) hb
      replace hS := (show w.heap.size + 2 ≤ V3.heap.size by rw [ho.size]; exact hS)
      clear hHeld ho hnew hLr HV HXX
      refine hK.out _ _ ?_ (fun hHeld => ?_)
      · exact hH2.out
      clear hK K
      clear hH2
      refine wpAnyH_done (by kernel_rfl) ?_ _
      have hr := hHeld
      clear hHeld
      go_simp
      go_wp2
      go_roundw
      case rel => exact ⟨k + 1, _, hlt, by go_num, hr, hq, HV2.out, HX2.out, hb, hS⟩
      case measure => simp [intOf]; omega
    · obtain rfl : k = n := by omega
      have HI : Hid (InAt wr (w.heap.size + 2) (fun _ => False) (.slice a1 k c1) xs ∧ xs.map (·.1) = l.map (·.1)) := by
        refine hide ⟨⟨?_, fun x hx => ?_, fun _ _ h => h, fun _ _ _ _ h => h⟩, hX.fst⟩
        · rw [hX.len, HN.out]; exact hv
        · obtain ⟨j, hj⟩ := List.getElem?_of_mem hx
          have hjl := (List.getElem?_eq_some_iff.1 hj).1
          rw [hX.len, HN.out] at hjl
          exact hX.new j x hjl hj
      clear hX hv
      go_wp2_with (first | ((with_reducible refine ld_bk w.heap.size s _ hr ?_ ?_ ?_); exact rfl; exact rfl) | ((with_reducible refine st_bk (w.heap.size + 1) _ _ s (.slice a1 k c1) rfl hq ?_ ?_ ?_); exact rfl; exact rfl; intro W3 hnew ho; replace hr := hr.only ho (by omega); replace hq := hnew; replace hb := ho.bel _ _ (by omega) hb))
      refine bodyPost_ret (results_cell_row Tryz.results29 _ _ (w.heap.size + 1) _ _ _ _ rfl hq Tryz.underlying53 rfl size_bk) rfl ?_
      exact ⟨_, rfl, xs, HI.out.2, (HI.out.1.only ho (fun e => absurd (HI.out.1.row.lt _ e).1 (by omega)) (fun x hx e => absurd ((HI.out.1.own x hx).lt _ e).1 (by omega))).lower (by omega), hb⟩
end Go.Proofs.YtaaiockiojejeaaGreatDoor
namespace Go.Proofs.YtaaiockiojejeaaGreatDoor
open Go.RowKit
set_option linter.unusedVariables false
set_option linter.unusedSimpArgs false

variable {P : Program} {ops : Array Oper} {rest : List Oper} {dst : Option Tmp} {ty t : TypeId} {pos : String} {after : Array Edge} {a : Act} {w : World} {Q : Exit → Act → World → Prop} {x y : Operand}
theorem zeros_len (zc : Array Value) (n : Nat) : (Builtin.zeroCells zc n).toList.length = n * zc.size := by simp [Builtin.zeroCells]
theorem zeros_one (zc : Array Value) (n : Nat) (h : ∀ u ∈ zc, u.oneCell' = true) (hs : 0 < zc.size) : ∀ u ∈ (Builtin.zeroCells zc n).toList, u.oneCell' = true := by
  intro v hv
  simp only [Builtin.zeroCells, Array.toList_map, Array.toList_range, List.mem_map] at hv
  obtain ⟨a, _, rfl⟩ := hv
  have hl : a % zc.size < zc.size := Nat.mod_lt _ hs
  rw [getElem!_pos zc (a % zc.size) hl]
  exact h _ (Array.getElem_mem hl)
theorem op_clear (t e : TypeId) (ht : P.underlying t = some (.slice e)) (zc : Array Value) (hz : ∀ w, (zeroValue e).run P w = .ok (.agg zc) w) (h1 : ∀ u ∈ zc, u.oneCell' = true) (hzs : 0 < zc.size) (b o n c : Nat) (hn : 0 < n) (cur : Array Value) (t' : TypeId) (hr : RowAt w b cur t') (hfit : o + n * zc.size ≤ cur.size) (hx : a.eval x = .slice (some ⟨b, o, none⟩) n c)
    (k : ∀ W cur', RowAt W b cur' t' → cur'.size = cur.size → (∀ j, j < o → cur'[j]? = cur[j]?) → Only b w W → wpList P ops Q rest (a.put dst (.tuple #[])) W) :
    wpList P ops Q (⟨dst, .call { callee := .builtin .clear, args := #[x], argTypes := #[t] }, ty, pos, after, none⟩ :: rest) a w := by
  have hth := hr.thereAt o (n * zc.size) hfit
  have hl := zeros_len zc n
  have hst := run_storeCells_cells (P := P) b o (Builtin.zeroCells zc n).toList 0 w (fun i hi => by rw [hl] at hi; simpa using (hth i (by omega)).1) (fun i hi => by rw [hl] at hi; simpa using (hth i (by omega)).2) (zeros_one zc n h1 hzs)
  simp only [Nat.add_zero] at hst
  have hrun : ∀ ty, (Builtin.clear_ #[t] ty #[.slice (some ⟨b, o, none⟩) n c]).run P w = .ok (.tuple #[]) (w.setCells b o (Builtin.zeroCells zc n).toList) := fun ty => by
    obtain ⟨m, rfl⟩ : ∃ m, n = m + 1 := ⟨n - 1, by omega⟩
    simp [Builtin.clear_, run_underlying ht, hz, Value.cells, hst]
  refine wpList_plain rfl fun K hK => ?_
  unfold Oper.wp
  have : (execOp a.eval ⟨dst, .call { callee := .builtin .clear, args := #[x], argTypes := #[t] }, ty, pos, after, none⟩).run P w = .ok (.value (.tuple #[])) (w.setCells b o (Builtin.zeroCells zc n).toList) := by
    simp [execOp, resolve, invoke, builtin, hx, hrun, Result.andThen]
  rw [this, Oper.upon_value]
  refine hK _ _ (k _ _ (RowAt.puts (Builtin.zeroCells zc n).toList o hr) (putAll_size _ _ _) (fun j hj => ?_) (only_setCells b o _ w))
  rw [putAll_get _ _ _ _ (by rw [hl]; exact hfit), if_neg (by omega)]
/-- A row of which the first m are kept. -/
theorem own_front {w W : World} {B e sz n m g cap : Nat} {xs : List Value} {cur cur' : Array Value} (h : w.ownsRow B e sz (.slice (some ⟨g, 0, none⟩) n cap) n xs) (hr : RowAt w g cur e) (hw : RowAt W g cur' e) (hs : cur'.size = cur.size) (hc : ∀ j, j < m * sz → cur'[j]? = cur[j]?) (hm : m ≤ n) : W.ownsRow B e sz (.slice (some ⟨g, 0, none⟩) m cap) m (xs.take (m * sz)) := by
  rcases h.2 with ⟨h1, h2⟩ | ⟨g', cap', cur1, h1, h2, h3, h4, h5, h6, h7⟩
  · cases h1
  · injection h1 with e1 e2 e3
    cases e1
    subst e3
    have e1 := hr.symm.trans h3
    simp at e1
    subst e1
    refine ⟨by rw [List.length_take, h.1]; exact Nat.min_eq_left (Nat.mul_le_mul_right _ hm), .inr ⟨g, cap, cur', rfl, h2, hw, by omega, h5, by rw [hs]; exact h6, ?_⟩⟩
    rw [← h7, List.take_take, Nat.min_eq_left (Nat.mul_le_mul_right _ hm)]
    apply List.ext_getElem?
    intro j
    rw [List.getElem?_take, List.getElem?_take]
    split
    · rename_i hj; rw [Array.getElem?_toList, Array.getElem?_toList]; exact hc j hj
    · rfl
end Go.Proofs.YtaaiockiojejeaaGreatDoor
namespace Go.Proofs.YtaaiockiojejeaaGreatDoor
open Go.RowKit
set_option linter.unusedVariables false
set_option linter.unusedSimpArgs false

variable {P : Program} {dst : Option Tmp} {ty t : TypeId} {pos : String} {after : Array Edge} {a : Act} {w : World} {Q : Exit → Act → World → Prop} {K : Act → World → Prop} {x y : Operand}
theorem s_bsr {parts : Array (Nat × Operand)} (t e : TypeId) (n : Nat) (hu : P.underlying t = some (.slice e)) (C : Array Value) (N : Nat) (hN : w.heap.size = N) (L : List (Nat × Value)) (hL : (parts.map fun p => (p.1, a.eval p.2)).toList = L) (hf : BuiltR P e n L C)
    (k : ∀ W, RowAt W N C e → Below N w W → Hid (W.heap.size = N + 1) → K (a.put dst (.slice (some ⟨N, 0, none⟩) n n)) W) :
    Oper.wp P ⟨dst, .buildSlice t n parts, ty, pos, after, none⟩ a w K Q := by
  subst hN hL
  replace hf := hf.h
  unfold Program.builtSlice at hf
  cases hie : P.info? e with
  | none => simp [hie] at hf
  | some ie =>
    simp only [hie] at hf
    cases hz : ie.zero with
    | none => simp [hz] at hf
    | some z =>
      simp only [hz] at hf
      by_cases hc : n * ie.size > 2 ^ 24 ∨ n * ie.size = 0
      · simp [hc] at hf
      · rw [if_neg hc] at hf
        exact wp_buildSlice t e n parts rfl C ie z hu hie hz (fun h' => hc (Or.inl h')) (fun h' => hc (Or.inr h')) hf (k _ (RowAt.new w _ C e rfl) (below_one w _) (hide (by simp)))
theorem s_alc (N : Nat) (hN : w.heap.size = N) (cs : Array Value) (hz : ∀ w, (zeroValue t).run P w = .ok (.agg cs) w)
    (k : ∀ W, RowAt W N cs t → Below N w W → Hid (W.heap.size = N + 1) → K (a.put dst (.pointer (some ⟨N, 0, none⟩))) W) :
    Oper.wp P ⟨dst, .alloc t, ty, pos, after, none⟩ a w K Q := by
  subst hN
  have hrun : (execOp a.eval ⟨dst, .alloc t, ty, pos, after, none⟩).run P w = .ok (.value (.pointer (some ⟨w.heap.size, 0, none⟩))) (w.alloc (.cells cs t)) := by
    unfold execOp
    simp only [Instr.alloc, Sem.run_bind, hz, Result.andThen_ok, newVar, newRow, run_newObj_alloc, Sem.run_pure]
    rfl
  unfold Oper.wp
  rw [hrun, Oper.upon_value]
  exact k _ (RowAt.new w _ cs t rfl) (below_one w _) (hide (by simp))
theorem s_appl {v : Value} {B n : Nat} {xs : List Value} (t e : TypeId) (i : TypeInfo) (z : Value) (size bytes : Nat) (ht : P.underlying t = some (.slice e)) (hi : P.info? e = some i) (hz : i.zero = some z) (hs : i.size = size) (hby : i.bytes = bytes) (hzs : z.cells.size = size) (hsz : 0 < size)
    (hown : w.ownsRow B e size v n xs) (s : Addr) (m sc : Nat) (news : List Value) (hl : news.length = m * size) (hnews : ∀ j u, news[j]? = some u → w.cell? (s.add j) = some u) (h1 : ∀ u ∈ news, u.oneCell' = true)
    (h63 : n + m ≤ maxLen) (hbytes : (n + m) * bytes ≤ 140737488355328) (hB : B ≤ w.heap.size) (hx : a.eval x = v) (hy : a.eval y = .slice (some s) m sc)
    (k : ∀ W v', W.ownsRow B e size v' (n + m) (xs ++ news) → w.grownBy W v.ownBlock → (v'.ownBlock = v.ownBlock ∨ v'.ownBlock = some w.heap.size) → K (a.put dst v') W) :
    Oper.wp P ⟨dst, .call { callee := .builtin .append, args := #[x, y], argTypes := #[t, t] }, t, pos, after, none⟩ a w K Q := by
  obtain ⟨v', W, a1, a2, a3, a4, a5⟩ := run_append_own_at (P := P) w B t t e i z size bytes ht hi hz hs hby hzs hsz v n xs hown s m sc news hl hnews h1 h63 hbytes hB
  unfold Oper.wp
  have : (execOp a.eval ⟨dst, .call { callee := .builtin .append, args := #[x, y], argTypes := #[t, t] }, t, pos, after, none⟩).run P w = .ok (.value v') W := by
    simp [execOp, resolve, invoke, builtin, hx, hy, a1, Result.andThen]
  rw [this, Oper.upon_value]
  exact k W v' a2 a3 a5
theorem bs_byte (n : Nat) : BuiltR Tryz.prog 5 1 [(0, .int .u8 (n : Nat))] #[.int .u8 (n : Nat)] := ⟨by kernel_rfl⟩
end Go.Proofs.YtaaiockiojejeaaGreatDoor
namespace Go.Proofs.YtaaiockiojejeaaGreatDoor
open Go.RowKit
set_option linter.unusedVariables false
set_option linter.unusedSimpArgs false

end Go.Proofs.YtaaiockiojejeaaGreatDoor
namespace Go.Proofs.YtaaiockiojejeaaGreatDoor
open Go.RowKit
set_option linter.unusedVariables false
set_option linter.unusedSimpArgs false

variable {ops : Array Oper} {rest : List Oper} {dst : Option Tmp} {ty : TypeId} {pos : String} {after : Array Edge} {a : Act} {w : World} {Q : Exit → Act → World → Prop} {x y : Operand}
theorem st_smm (b o : Nat) (g : Sg) (old : Array Value) (t' : TypeId) (hr : RowAt w b old t') (hs : o + 3 ≤ old.size) (hx : a.eval x = .pointer (some ⟨b, o, none⟩)) (hy : a.eval y = .agg g.cells)
    (k : ∀ W, RowAt W b (putAll old o g.cells.toList) t' → Only b w W → wpList Tryz.prog ops Q rest (a.put dst undef) W) : wpList Tryz.prog ops Q (⟨dst, .store 103 x y, ty, pos, after, none⟩ :: rest) a w :=
  op_store_mid b o hx g.cells hy old _ _ hr size_sp hs (sg_one g) rfl k
set_option maxHeartbeats 1000000 in
theorem wri1_any (s : Sg) (w : World) : Calls Tryz.prog 142 #[.agg s.cells] w fun e w' => e = .returned (.bool (!s.wr)) ∧ Below w.heap.size w w' := by
  go_enter Tryz.func142, Tryz.ntmps142
  go_wp2_with (first | ((with_reducible refine bx_sp w.heap.size s ?_ ?_ ?_); exact rfl; exact rfl; intro W hr hb hz) | ((with_reducible refine ld_swr w.heap.size _ _ hr ?_ ?_ ?_); exact rfl; exact rfl))
  go_ret
  exact ⟨rfl, hb⟩
/-- The first part that is not written; -1: none. -/
def idxW (l : List Sg) : Int := match l.findIdx? (fun s => !s.wr) with
  | some k => (k : Int)
  | none => -1
theorem idxW_hit {l : List Sg} {k : Nat} {s : Sg} (h : ∀ x ∈ l.take k, x.wr = true) (hs : l[k]? = some s) (hw : s.wr = false) : idxW l = (k : Int) := by
  unfold idxW
  have hk := (List.getElem?_eq_some_iff.1 hs).1
  have : l.findIdx? (fun s => !s.wr) = some k := by
    rw [List.findIdx?_eq_some_iff_getElem]
    refine ⟨hk, by rw [(List.getElem?_eq_some_iff.1 hs).2, hw]; rfl, fun j hj => ?_⟩
    rw [h _ (List.mem_take_iff_getElem.2 ⟨j, by omega, rfl⟩)]; simp
  rw [this]
theorem idxW_none {l : List Sg} (h : ∀ x ∈ l, x.wr = true) : idxW l = -1 := by
  unfold idxW
  have : l.findIdx? (fun s => !s.wr) = none := by
    rw [List.findIdx?_eq_none_iff]
    intro q hq; rw [h q hq]; rfl
  rw [this]
theorem idxW_cases (l : List Sg) : (idxW l = -1 ∧ ∀ x ∈ l, x.wr = true) ∨ ∃ k s, idxW l = (k : Nat) ∧ l[k]? = some s ∧ s.wr = false ∧ ∀ x ∈ l.take k, x.wr = true := by
  unfold idxW
  cases h : l.findIdx? (fun s => !s.wr) with
  | none =>
    refine .inl ⟨rfl, fun x hx => ?_⟩
    have := (List.findIdx?_eq_none_iff.1 h) x hx
    simpa using this
  | some k =>
    obtain ⟨hk, h1, h2⟩ := List.findIdx?_eq_some_iff_getElem.1 h
    refine .inr ⟨k, l[k], rfl, List.getElem?_eq_getElem hk, by simpa using h1, fun x hx => ?_⟩
    obtain ⟨j, hj, rfl⟩ := List.mem_take_iff_getElem.1 hx
    have := h2 j (by omega)
    simpa using this
theorem wriL_all {l : List Sg} (h : ∀ x ∈ l, x.wr = true) : wriL l = l := List.filter_eq_self.2 h
theorem wriL_app (l m : List Sg) : wriL (l ++ m) = wriL l ++ wriL m := by simp [wriL]
theorem wriL_le (l : List Sg) : (wriL l).length ≤ l.length := List.length_filter_le _ _
set_option maxHeartbeats 2000000 in
theorem idxw_any (l : List Sg) (hl : l.length ≤ 1000000) {w : World} {Bl : Nat} {v : Value} (hL : w.ownsRow Bl 103 3 v l.length (segL l)) :
    Calls Tryz.prog 132 #[v, .func (.func 142) #[] #[]] w fun e w' => e = .returned (.int .i64 (idxW l)) ∧ Below w.heap.size w w' := by
  have HL := hide hL
  obtain ⟨n, hn⟩ : ∃ n, l.length = n := ⟨_, rfl⟩
  have HN := hide hn
  rw [hn] at hl
  obtain ⟨av, cap, rfl, hc1, hc2⟩ := own_form hL
  rw [hn] at hc1 ⊢
  obtain ⟨z, hz⟩ : ∃ z, idxW l = z := ⟨_, rfl⟩
  have HZ := hide hz
  rw [hz]
  clear hL hn hz
  go_enter Tryz.func132, Tryz.ntmps132
  go_wp2
  go_loopw [8] (fun iv wr => ∃ (k : Nat), k ≤ n ∧ iv = .int .i64 (k : Nat) ∧ (∀ x ∈ l.take k, x.wr = true) ∧ Below w.heap.size w wr) (fun iv _ => n - (intOf iv).toNat)
  case atStart => exact ⟨0, Nat.zero_le _, rfl, (fun x hx => by simp at hx), Below.refl _ _⟩
  case round =>
    obtain ⟨k, hk, rfl, hod, hb⟩ := hrel
    have HOD := hide hod
    clear hod
    by_cases hlt : k < n
    · obtain ⟨gb, cap', cur, hve, _, _, _, hLr, _, htk⟩ := own_row (own_bel HL.out hb) (show 0 < l.length by rw [HN.out]; omega)
      obtain ⟨rfl, rfl⟩ : av = some ⟨gb, 0, none⟩ ∧ cap = cap' := by injection hve with e1 e2 e3; exact ⟨e1, e3⟩
      obtain ⟨s, hs⟩ : ∃ s, l[k]? = some s := ⟨_, List.getElem?_eq_getElem (by rw [HN.out]; exact hlt)⟩
      have hmid := mid_s htk hs
      have HS := hide hs
      have HC := hide (fun W => wri1_any s W)
      obtain ⟨bo, hbo⟩ : ∃ x, s.wr = x := ⟨_, rfl⟩
      rw [hbo] at HC
      have HBO := hide hbo
      clear hs hbo htk hve
      cases bo with
      | false =>
        go_wp2_with (first | ((with_reducible refine ld_sm gb (k * 3) s cur _ hLr hmid ?_ ?_); exact rfl) | (go_at_call 142; (with_reducible refine (HC.out _).mono ?_); rintro e W2 ⟨rfl, hb2⟩))
        go_ret
        exact ⟨by rw [← HZ.out, idxW_hit HOD.out HS.out HBO.out]; rfl, hb.trans (hb2.mono hb.size)⟩
      | true =>
        go_wp2_with (first | ((with_reducible refine ld_sm gb (k * 3) s cur _ hLr hmid ?_ ?_); exact rfl) | (go_at_call 142; (with_reducible refine (HC.out _).mono ?_); rintro e W2 ⟨rfl, hb2⟩))
        go_roundw
        case rel => exact ⟨k + 1, hlt, by go_num, (fun x hx => by rw [List.take_add_one, HS.out] at hx; rcases List.mem_append.1 hx with h | h; exact HOD.out x h; simp at h; subst h; exact HBO.out), hb.trans (hb2.mono hb.size)⟩
        case measure => simp [intOf]; omega
    · obtain rfl : k = n := by omega
      go_wp2
      go_ret
      exact ⟨by rw [← HZ.out, idxW_none (by have := HOD.out; rwa [← HN.out, List.take_length] at this)]; rfl, hb⟩
/-- The row while parts are left out. -/
structure DelS (w : World) (gb cap : Nat) (l : List Sg) (i j : Nat) : Prop where
  ex : ∃ cur : Array Value, RowAt w gb cur 103 ∧ cur.size = cap * 3 ∧ (∀ (t : Nat) (u : Value), (segL (wriL (l.take j)))[t]? = some u → cur[t]? = some u) ∧ ∀ (t : Nat) (s : Sg), j ≤ t → l[t]? = some s → ∀ (c : Nat), c < 3 → cur[t * 3 + c]? = s.cells[c]?
  len : (wriL (l.take j)).length = i
  le : l.length ≤ cap
theorem take_pre {cur : Array Value} {xs : List Value} {m : Nat} (h : ∀ (t : Nat) (u : Value), xs[t]? = some u → cur[t]? = some u) (hm : xs.length = m) : cur.toList.take m = xs := by
  apply List.ext_getElem?
  intro j
  rw [List.getElem?_take]
  split
  · rename_i hj
    rw [Array.getElem?_toList, List.getElem?_eq_getElem (by omega)]
    exact h j _ (List.getElem?_eq_getElem (by omega))
  · rw [List.getElem?_eq_none (by omega)]
theorem DelS.bl {w W : World} {gb cap i j : Nat} {l : List Sg} (h : DelS w gb cap l i j) (hb : Below w.heap.size w W) : DelS W gb cap l i j := by
  obtain ⟨cur, h1, h2⟩ := h.ex
  exact ⟨⟨cur, h1.bl hb, h2⟩, h.len, h.le⟩
theorem DelS.only {w W : World} {gb cap i j g : Nat} {l : List Sg} (h : DelS w gb cap l i j) (ho : Only g w W) (hn : gb ≠ g) : DelS W gb cap l i j := by
  obtain ⟨cur, h1, h2⟩ := h.ex
  exact ⟨⟨cur, h1.only ho hn, h2⟩, h.len, h.le⟩
theorem DelS.skip {w : World} {gb cap i j : Nat} {l : List Sg} {s : Sg} (h : DelS w gb cap l i j) (hs : l[j]? = some s) (hw : s.wr = false) : DelS w gb cap l i (j + 1) := by
  have e : wriL (l.take (j + 1)) = wriL (l.take j) := by rw [List.take_add_one, hs, wriL_app]; simp [wriL, hw]
  obtain ⟨cur, h1, h2, h3, h4⟩ := h.ex
  exact ⟨⟨cur, h1, h2, by rw [e]; exact h3, fun t x ht hx => h4 t x (by omega) hx⟩, by rw [e]; exact h.len, h.le⟩
theorem DelS.put {w W : World} {gb cap i j : Nat} {l : List Sg} {s : Sg} {cur : Array Value} (h : DelS w gb cap l i j) (hs : l[j]? = some s) (hw : s.wr = true) (hij : i ≤ j) (hr : RowAt w gb cur 103) (hW : RowAt W gb (putAll cur (i * 3) s.cells.toList) 103) : DelS W gb cap l (i + 1) (j + 1) := by
  have e : wriL (l.take (j + 1)) = wriL (l.take j) ++ [s] := by rw [List.take_add_one, hs, wriL_app]; simp [wriL, hw]
  obtain ⟨cur', h1, h2, h3, h4⟩ := h.ex
  have e1 := hr.symm.trans h1
  simp at e1
  subst e1
  have hjl := (List.getElem?_eq_some_iff.1 hs).1
  have hle := h.le
  have h33 : s.cells.toList.length = 3 := rfl
  have hfit : i * 3 + s.cells.toList.length ≤ cur.size := by rw [h33, h2]; omega
  refine ⟨⟨_, hW, by rw [putAll_size]; exact h2, fun t u hu => ?_, fun t x ht hx c hc => ?_⟩, by rw [e, List.length_append, h.len]; rfl, h.le⟩
  · rw [putAll_get _ _ _ _ hfit, h33]
    rw [e, segL_app, segL_one] at hu
    have hl3 : (segL (wriL (l.take j))).length = i * 3 := by rw [segL_len, h.len]
    by_cases ht : t < i * 3
    · rw [if_neg (by omega)]
      rw [List.getElem?_append_left (by omega)] at hu
      exact h3 t u hu
    · rw [List.getElem?_append_right (by omega), hl3] at hu
      have : t - i * 3 < 3 := by have := (List.getElem?_eq_some_iff.1 hu).1; rwa [h33] at this
      rw [if_pos (by omega)]; exact hu
  · rw [putAll_get _ _ _ _ hfit, h33, if_neg (by omega)]
    exact h4 t x (by omega) hx c hc
theorem own_del {w : World} {B gb n cap : Nat} {l : List Sg} (h : w.ownsRow B 103 3 (.slice (some ⟨gb, 0, none⟩) n cap) n (segL l)) (hn : l.length = n) : ∀ k, (∀ x ∈ l.take k, x.wr = true) → k ≤ n → DelS w gb cap l k k := by
  intro k hk hkn
  obtain ⟨g', cap', cur, hve, hnc, _, _, hr, hcs, htk⟩ : ∃ g' cap' cur, (Value.slice (some ⟨gb, 0, none⟩) n cap) = .slice (some ⟨g', 0, none⟩) n cap' ∧ n ≤ cap' ∧ cap' ≤ maxLen ∧ B ≤ g' ∧ RowAt w g' cur 103 ∧ cur.size = cap' * 3 ∧ cur.toList.take (n * 3) = segL l := by
    rcases h.2 with ⟨h1, _⟩ | ⟨g', cap', cur, h1, h2, h3, h4, h5, h6, h7⟩
    · cases h1
    · exact ⟨g', cap', cur, h1, h4, h5, h2, h3, h6, h7⟩
  injection hve with e1 e2 e3
  cases e1
  subst e3
  have e : wriL (l.take k) = l.take k := wriL_all hk
  have hat : ∀ (t : Nat) (u : Value), (segL l)[t]? = some u → cur[t]? = some u := fun t u hu => by
    rw [← htk, List.getElem?_take] at hu
    split at hu
    · rw [← Array.getElem?_toList]; exact hu
    · cases hu
  refine ⟨⟨cur, hr, hcs, fun t u hu => ?_, fun t s ht hs c hc => ?_⟩, by rw [e, List.length_take]; omega, by omega⟩
  · rw [e] at hu
    apply hat
    have : segL l = segL (l.take k) ++ segL (l.drop k) := by rw [← segL_app, List.take_append_drop]
    rw [this, List.getElem?_append_left (List.getElem?_eq_some_iff.1 hu).1]; exact hu
  · have := segL_at l t s hs c hc
    rw [show s.cells[c]? = some (s.cells[c]'(by show c < 3; exact hc)) from Array.getElem?_eq_getElem _] at this ⊢
    exact hat _ _ this
set_option maxHeartbeats 4000000 in
theorem delf_any (l : List Sg) (hl : l.length ≤ 1000) (hl0 : 0 < l.length) {w : World} {Bl : Nat} {v : Value} (hL : w.ownsRow Bl 103 3 v l.length (segL l)) (hBl : Bl ≤ w.heap.size) :
    Calls Tryz.prog 141 #[v, .func (.func 142) #[] #[]] w fun e w' => ∃ v', e = .returned v' ∧ w'.ownsRow Bl 103 3 v' (wriL l).length (segL (wriL l)) ∧ Below Bl w w' := by
  have HX := hide (idxw_any l (by omega) hL)
  obtain ⟨n, hn⟩ : ∃ n, l.length = n := ⟨_, rfl⟩
  have HN := hide hn
  obtain ⟨gb, cap, cur0, rfl, hc1, hc2, hgB, _, _, _⟩ := own_row hL hl0
  have hL1 := hL
  rw [hn] at HX hl hl0 hc1 hL1 ⊢
  have HL := hide hL1
  have HD := hide (own_del hL1 hn)
  clear hL hL1 hn
  rcases idxW_cases l with ⟨e, hall⟩ | ⟨k0, s0, e, hs0, hw0, hpre⟩
  · rw [e] at HX
    have e2 : wriL l = l := wriL_all hall
    rw [e2]
    clear hall e2 e
    go_enter Tryz.func141, Tryz.ntmps141
    go_wp2_with (first | (go_at_call 132; (with_reducible refine HX.out.mono ?_); rintro e W2 ⟨rfl, hb⟩))
    go_ret
    exact ⟨_, rfl, by rw [HN.out]; exact own_bel HL.out hb, hb.mono hBl⟩
  · rw [e] at HX
    have hk0 : k0 < n := by have := (List.getElem?_eq_some_iff.1 hs0).1; rwa [HN.out] at this
    have HD0 := hide ((HD.out k0 hpre (by omega)).skip hs0 hw0)
    have tk : ((k0 : Int) == -1) = false := by first | (simp; done) | (simp; omega)
    clear HD hpre hs0 hw0 e
    go_enter Tryz.func141, Tryz.ntmps141
    go_wp2_with (first | (go_at_call 132; (with_reducible refine HX.out.mono ?_); rintro e W2 ⟨rfl, hb⟩))
    go_loopw [5, 6] (fun iv jv wr => ∃ (i j : Nat), iv = .int .i64 (i : Nat) ∧ jv = .int .i64 (j : Nat) ∧ i < j ∧ j ≤ n ∧ DelS wr gb cap l i j ∧ Below Bl w wr ∧ w.heap.size ≤ wr.heap.size) (fun iv jv _ => n - (intOf jv).toNat)
    case atStart => exact ⟨k0, k0 + 1, rfl, by go_num, by omega, by omega, HD0.out.bl hb, hb.mono hBl, hb.size⟩
    case round =>
      clear hb
      obtain ⟨i, j, rfl, rfl, hij, hjn, hD, hb, hS⟩ := hrel
      by_cases hlt : j < n
      · obtain ⟨cur, hLr, hcs, hpr, hat⟩ := hD.ex
        obtain ⟨s, hs⟩ : ∃ s, l[j]? = some s := ⟨_, List.getElem?_eq_getElem (by rw [HN.out]; exact hlt)⟩
        have hmid : (cur.extract (j * 3) (j * 3 + s.cells.size)).toList = s.cells.toList := by
          apply List.ext_getElem?
          intro c
          rw [Array.getElem?_toList, Array.getElem?_toList, Array.getElem?_extract]
          by_cases hc : c < 3
          · rw [if_pos (by rw [show s.cells.size = 3 from rfl, hcs]; omega), hat j s (Nat.le_refl _) hs c hc]
          · rw [if_neg (by rw [show s.cells.size = 3 from rfl, hcs]; omega), Array.getElem?_eq_none (by show 3 ≤ c; omega)]
        have HS := hide hs
        have HC := hide (fun W => wri1_any s W)
        have HDD := hide hD
        have hgw : gb < wr.heap.size := hLr.lt
        have hfit : i * 3 + 3 ≤ cur.size := by rw [hcs]; have := hD.le; rw [HN.out] at this; omega
        obtain ⟨ND, hND0⟩ : ∃ x, wr.heap.size = x := ⟨_, rfl⟩
        have hND := hide hND0
        rw [hND0] at hgw
        have hd1 : w.heap.size ≤ ND := hND0 ▸ hS
        obtain ⟨bo, hbo⟩ : ∃ x, s.wr = x := ⟨_, rfl⟩
        rw [hbo] at HC
        have HBO := hide hbo
        have hlt' : (j : Int) < (n : Int) := by omega
        clear hs hbo hD hpr hat hND0
        cases bo with
        | false =>
          go_wp2_with (first | ((with_reducible refine ld_sm gb (j * 3) s cur _ hLr hmid ?_ ?_); exact rfl) | ((with_reducible refine al_sp ND ?_ ?_); exact hND.out; intro W hsr hb' hz; have hbc := hND.out ▸ hb'; replace hb := hb.trans (hb'.mono (by omega)); replace hLr := hLr.bl hbc; replace HDD := hide (HDD.out.bl hbc); replace hS := Nat.le_trans hS hbc.size; clear hb' hbc) | ((with_reducible refine st_sp ND _ s hsr ?_ ?_ ?_); exact rfl; exact rfl; intro W hnew ho; replace hLr := hLr.only ho (by omega); replace HDD := hide (HDD.out.only ho (by omega)); replace hb := ho.bel _ _ (by omega) hb; replace hS := (show w.heap.size ≤ W.heap.size by rw [ho.size]; exact hS); replace hsr := hnew; clear hnew ho) | ((with_reducible refine ld_sp ND s hsr ?_ ?_ ?_); exact rfl; exact rfl) | (go_at_call 142; (with_reducible refine (HC.out _).mono ?_); rintro e W2 ⟨rfl, hbc⟩; replace hb := hb.trans (hbc.mono (by omega)); replace hLr := hLr.bl hbc; replace hsr := hsr.bl hbc; replace HDD := hide (HDD.out.bl hbc); replace hS := Nat.le_trans hS hbc.size; clear hbc))
          go_roundw
          case rel => exact ⟨i, j + 1, rfl, by go_num, by omega, by omega, HDD.out.skip HS.out HBO.out, hb, hS⟩
          case measure => simp [intOf]; omega
        | true =>
          go_wp2_with (first | ((with_reducible refine ld_sm gb (j * 3) s cur _ hLr hmid ?_ ?_); exact rfl) | ((with_reducible refine al_sp ND ?_ ?_); exact hND.out; intro W hsr hb' hz; have hbc := hND.out ▸ hb'; replace hb := hb.trans (hb'.mono (by omega)); replace hLr := hLr.bl hbc; replace HDD := hide (HDD.out.bl hbc); replace hS := Nat.le_trans hS hbc.size; clear hb' hbc) | ((with_reducible refine st_sp ND _ s hsr ?_ ?_ ?_); exact rfl; exact rfl; intro W hnew ho; replace hLr := hLr.only ho (by omega); replace HDD := hide (HDD.out.only ho (by omega)); replace hb := ho.bel _ _ (by omega) hb; replace hS := (show w.heap.size ≤ W.heap.size by rw [ho.size]; exact hS); replace hsr := hnew; clear hnew ho) | ((with_reducible refine ld_sp ND s hsr ?_ ?_ ?_); exact rfl; exact rfl) | (go_at_call 142; (with_reducible refine (HC.out _).mono ?_); rintro e W2 ⟨rfl, hbc⟩; replace hb := hb.trans (hbc.mono (by omega)); replace hLr := hLr.bl hbc; replace hsr := hsr.bl hbc; replace HDD := hide (HDD.out.bl hbc); replace hS := Nat.le_trans hS hbc.size; clear hbc) | ((with_reducible refine st_smm gb (i * 3) s cur _ hLr hfit ?_ ?_ ?_); exact rfl; exact rfl; intro W hnew ho; replace HDD := hide (HDD.out.put HS.out HBO.out (by omega) hLr hnew); replace hb := ho.bel _ _ (by omega) hb; replace hS := (show w.heap.size ≤ W.heap.size by rw [ho.size]; exact hS); clear hLr))
          go_roundw
          case rel => exact ⟨i + 1, j + 1, by go_num, by go_num, by omega, by omega, HDD.out, hb, hS⟩
          case measure => simp [intOf]; omega
      · obtain rfl : j = n := by omega
        obtain ⟨cur, hLr, hcs, hpr, hat⟩ := hD.ex
        have htl : l.take j = l := by rw [← HN.out, List.take_length]
        rw [htl] at hpr
        have hlen := hD.len
        rw [htl] at hlen
        have hle := hD.le
        rw [HN.out] at hle
        have HPR := hide hpr
        have HLE := hide hlen
        have hfit : i * 3 + (j - i) * zeroSg.cells.size ≤ cur.size := by rw [hcs, show zeroSg.cells.size = 3 from rfl]; omega
        have hlt' : ¬ (j : Int) < (j : Int) := by omega
        have i1 : (i : Int) < (cap : Int) := by omega
        have i2 : (i : Int) ≤ (j : Int) := by omega
        have i3 : ¬ (cap : Int) = (i : Int) := by omega
        clear hD hpr hat hlen
        go_wp2_with (first | ((with_reducible refine op_clear 100 103 Tryz.underlying100 zeroSg.cells zero_sp (by decide) (by decide) gb (i * 3) (j - i) (cap - i) (by omega) cur _ hLr hfit ?_ ?_); exact rfl; intro W cur' hnew hsz hkeep ho; replace hb := ho.bel _ _ (by omega) hb))
        go_ret
        refine ⟨_, rfl, ⟨by rw [segL_len], .inr ⟨gb, cap, cur', by rw [HLE.out]; rfl, hgB, hnew, by rw [HLE.out]; omega, hc2, by rw [hsz]; exact hcs, ?_⟩⟩, hb⟩
        refine take_pre (fun t u hu => ?_) (segL_len _)
        have htt : t < i * 3 := by have := (List.getElem?_eq_some_iff.1 hu).1; rw [segL_len, HLE.out] at this; exact this
        rw [hkeep t htt]
        exact HPR.out t u hu
set_option maxHeartbeats 1000000 in
theorem written_any (l : List Sg) (hl : l.length ≤ 1000) (hl0 : 0 < l.length) {w : World} {Bl : Nat} {v : Value} (hL : w.ownsRow Bl 103 3 v l.length (segL l)) :
    Calls Tryz.prog 118 #[v] w fun e w' => ∃ v', e = .returned v' ∧ w'.ownsRow w.heap.size 103 3 v' (wriL l).length (segL (wriL l)) ∧ Below w.heap.size w w' := by
  have HC : Hid (Calls Tryz.prog 64 #[v] w fun e w' => ∃ v', e = .returned v' ∧ w'.ownsRow w.heap.size 103 3 v' l.length (segL l) ∧ Below w.heap.size w w') := hide (clone_s l.length (segL l) (segL_ones _) (by omega) hL)
  have HD : Hid (∀ W u, W.ownsRow w.heap.size 103 3 u l.length (segL l) → w.heap.size ≤ W.heap.size → Calls Tryz.prog 141 #[u, .func (.func 142) #[] #[]] W fun e w' => ∃ v', e = .returned v' ∧ w'.ownsRow w.heap.size 103 3 v' (wriL l).length (segL (wriL l)) ∧ Below w.heap.size W w') := hide (fun W u hu hW => delf_any l hl hl0 hu hW)
  clear hL
  go_enter Tryz.func118, Tryz.ntmps118
  go_wp2_with (first | (go_at_call 64; (with_reducible refine HC.out.mono ?_); rintro e W ⟨v1, rfl, hv, hb⟩) | (go_at_call 141; (with_reducible refine (HD.out _ _ hv hb.size).mono ?_); rintro e W2 ⟨v2, rfl, hv2, hb2⟩))
  go_ret
  exact ⟨_, rfl, hv2, hb.trans hb2⟩
end Go.Proofs.YtaaiockiojejeaaGreatDoor
