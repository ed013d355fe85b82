/-
  What blk's answer does.
-/
import Derived.Test.YtaaiockiojejeaaGreatDoorJR28
import Derived.Test.YtaaiockiojejeaaGreatDoorJR29
import Derived.Test.YtaaiockiojejeaaGreatDoorJR10
namespace Go.Proofs.YtaaiockiojejeaaGreatDoor
open Go.RowKit
set_option linter.unusedVariables false
set_option linter.unusedSimpArgs false

theorem reqL_erase (l : List (Rq × Value)) (k : Nat) : reqL (l.take k) ++ reqL (l.drop (k + 1)) = reqL (l.eraseIdx k) := by
  rw [← reqL_app, List.eraseIdx_eq_take_drop_succ]
theorem reqL_take (l : List (Rq × Value)) (k : Nat) : (reqL l).take (k * 6) = reqL (l.take k) := by
  by_cases h : k ≤ l.length
  · have e : reqL l = reqL (l.take k) ++ reqL (l.drop k) := by rw [← reqL_app, List.take_append_drop]
    rw [e, List.take_left' (by rw [reqL_len, List.length_take]; omega)]
  · rw [List.take_of_length_le (by rw [reqL_len]; omega), List.take_of_length_le (by omega)]
theorem reqL_drop (l : List (Rq × Value)) (k j : Nat) (u : Value) (h : (reqL (l.drop k))[j]? = some u) : (reqL l)[k * 6 + j]? = some u := by
  by_cases hk : k ≤ l.length
  · have e : reqL l = reqL (l.take k) ++ reqL (l.drop k) := by rw [← reqL_app, List.take_append_drop]
    have hl : (reqL (l.take k)).length = k * 6 := by rw [reqL_len, List.length_take]; omega
    rw [e, List.getElem?_append_right (by omega), hl, show k * 6 + j - k * 6 = j by omega]; exact h
  · rw [List.drop_of_length_le (by omega)] at h; cases h
/-- All but one block is as it was. -/
structure But1 (g : Nat) (w W : World) : Prop where
  size : w.heap.size ≤ W.heap.size
  row : ∀ x, x < w.heap.size → x ≠ g → W.heap[x]? = w.heap[x]?
  bel : ∀ B w0, B ≤ g → B ≤ w.heap.size → Below B w0 w → Below B w0 W
theorem But1.dr (g : Nat) (w : World) : But1 g w w.drew := ⟨Nat.le_refl _, fun _ _ _ => rfl, fun _ _ _ _ h => h.drew⟩
theorem But1.grow {g : Nat} {w W W' : World} (h : But1 g w W) (hg : W.grownBy W' (some g)) : But1 g w W' :=
  ⟨Nat.le_trans h.size hg.size, fun x hx hn => (hg.block x (Nat.lt_of_lt_of_le hx h.size) (fun e => hn (by cases e; rfl))).trans (h.row x hx hn), fun B w0 h1 h2 h3 => grow_below (h.bel B w0 h1 h2 h3) hg (Nat.le_trans h2 h.size) (fun x e => by cases e; exact h1)⟩
theorem But1.only {g : Nat} {w W W' : World} (h : But1 g w W) (ho : Only g W W') : But1 g w W' :=
  ⟨by rw [ho.size]; exact h.size, fun x hx hn => (ho.row x hn).trans (h.row x hx hn), fun B w0 h1 h2 h3 => ho.bel B w0 h1 (h.bel B w0 h1 h2 h3)⟩
theorem wp_appv {P : Program} {dst : Option Tmp} {t : TypeId} {pos : String} {after : Array Edge} {a : Act} {w W : World} {x y : Operand} {v1 v2 r : Value} {K : Act → World → Prop} {Q : Exit → Act → World → Prop}
    (h : (Builtin.append_ #[t, t] t #[v1, v2]).run P w = .ok r W) (hx : a.eval x = v1) (hy : a.eval y = v2) (k : K (a.put dst r) W) :
    Oper.wp P ⟨dst, .call { callee := .builtin .append, args := #[x, y], argTypes := #[t, t] }, t, pos, after, none⟩ a w K Q := by
  unfold Oper.wp
  have : (execOp a.eval ⟨dst, .call { callee := .builtin .append, args := #[x, y], argTypes := #[t, t] }, t, pos, after, none⟩).run P w = .ok (.value r) W := by
    simp [execOp, resolve, invoke, builtin, hx, hy, h, Result.andThen]
  rw [this, Oper.upon_value]
  exact k
set_option maxRecDepth 20000 in
set_option maxHeartbeats 4000000 in
theorem del_any (l : List (Rq × Value)) (hl : l.length ≤ 1000) (k : Nat) (hk : k < l.length) (h1 : ∀ u ∈ reqL l, u.oneCell' = true) {w : World} {B : Nat} {v : Value} (hL : w.ownsRow B 102 6 v l.length (reqL l)) :
    Calls Tryz.prog 49 #[v, .int .i64 (k : Nat), .int .i64 ((k + 1 : Nat) : Int)] w fun e w' => ∃ v', e = .returned v' ∧ w'.ownsRow B 102 6 v' (l.eraseIdx k).length (reqL (l.eraseIdx k)) ∧ v'.ownBlock = v.ownBlock ∧ ∃ g, v.ownBlock = some g ∧ But1 g w w' := by
  obtain ⟨n, hn⟩ : ∃ n, l.length = n := ⟨_, rfl⟩
  obtain ⟨m, rfl⟩ : ∃ m, n = m + 1 := ⟨n - 1, by omega⟩
  obtain ⟨gb, cap, cur0, rfl, hc1, hc2, hgB, hr, hcs, htk⟩ := own_row hL (by omega)
  obtain ⟨iR, qR1, qR2, qR3, qR4⟩ := info_r
  have HN := hide hn
  have hP := own_front (m := k) hL hr hr rfl (fun _ _ => rfl) (by omega)
  rw [reqL_take] at hP
  rw [hn] at hl hk hc1 ⊢
  have HP := hide hP
  have hde : (reqL (l.drop (k + 1))).length = (m + 1 - (k + 1)) * 6 := by rw [reqL_len, List.length_drop, hn]
  have hdc : ∀ j u, (reqL (l.drop (k + 1)))[j]? = some u → w.cell? ⟨gb, (k + 1) * 6 + j, none⟩ = some u := fun j u hu => by
    have h3 := reqL_drop l (k + 1) j u hu
    rw [← htk, List.getElem?_take] at h3
    split at h3
    · rw [Array.getElem?_toList] at h3
      exact (hr.cell _).trans h3
    · cases h3
  have hd1 : ∀ u ∈ reqL (l.drop (k + 1)), u.oneCell' = true := fun u hu => by
    obtain ⟨j, hj⟩ := List.getElem?_of_mem hu
    exact h1 u (List.mem_of_getElem? (reqL_drop l (k + 1) j u hj))
  have HDE := hide hde
  have HDC := hide hdc
  have HD1 := hide hd1
  clear hL hn hP hde hdc hd1 htk h1
  have i1 : (k : Int) ≤ ((m + 1 : Nat) : Int) := by omega
  have i2 : ((k + 1 : Nat) : Int) ≤ ((m + 1 : Nat) : Int) := by omega
  by_cases hcp : cap = k + 1
  · have j1 : ¬ cap < k := by omega
    have j2 : ¬ m + 1 < k + 1 := by omega
    go_enter Tryz.func49, Tryz.ntmps49
    go_wp2_with (fail)
    refine wp_region_held_drew (S := fun V => gb < V.heap.size) (by kernel_rfl) ?_ (fun hHeld => ?_)
    · exact hr.dr.lt
    have hP := own_dr HP.out
    have hdc : ∀ j u, (reqL (l.drop (k + 1)))[j]? = some u → w.drew.cell? ⟨gb, (k + 1) * 6 + j, none⟩ = some u := HDC.out
    have hK0 := But1.dr gb w
    generalize World.drew _ = V at hHeld hP hdc hK0 ⊢
    clear hr
    refine wpAnyH_take (i := 0) (oi := ?oi2) (v := .slice (some ⟨gb, 0, none⟩) (m + 1) cap) ?hi2 (by kernel_rfl) (by kernel_rfl) (by kernel_rfl) ?hQ2 ?hy2 (by assumption) ?rest2
    case hi2 => (simp only [List.getElem?_toArray, List.getElem?_cons_zero]; rfl)
    case hQ2 => exact fun _ _ _ h => h
    case hy2 => exact Or.inl ⟨by rfl, by (intro w hSw; (try dsimp only at hSw); go_simp )⟩
    simp only [Act.put, List.setIfInBounds_toArray, List.set_cons_zero, List.set_cons_succ]
    refine wpAnyH_take (i := 1) (oi := ?oi3) (v := .int .i64 (k : Nat)) ?hi3 (by kernel_rfl) (by kernel_rfl) (by kernel_rfl) ?hQ3 ?hy3 (by assumption) ?rest3
    case hi3 => (simp only [List.getElem?_toArray, List.getElem?_cons_zero, List.getElem?_cons_succ]; rfl)
    case hQ3 => exact fun _ _ _ h => h
    case hy3 => exact Or.inl ⟨by rfl, by (intro w hSw; (try dsimp only at hSw); go_simp )⟩
    simp only [Act.put, List.setIfInBounds_toArray, List.set_cons_zero, List.set_cons_succ]
    refine wpAnyH_take (i := 2) (oi := ?oi4) (v := .slice (some ⟨gb, 0, none⟩) k cap) ?hi4 (by kernel_rfl) (by kernel_rfl) (by kernel_rfl) ?hQ4 ?hy4 (by assumption) ?rest4
    case hi4 => (simp only [List.getElem?_toArray, List.getElem?_cons_zero, List.getElem?_cons_succ]; rfl)
    case hQ4 => exact fun _ _ _ h => h
    case hy4 => exact Or.inl ⟨by rfl, by (intro w hSw; (try dsimp only at hSw); go_simp  <;> (intro q; omega))⟩
    simp only [Act.put, List.setIfInBounds_toArray, List.set_cons_zero, List.set_cons_succ]
    refine wpAnyH_take (i := 3) (oi := ?oi5) (v := .slice (some ⟨gb, 0, none⟩) (m + 1) cap) ?hi5 (by kernel_rfl) (by kernel_rfl) (by kernel_rfl) ?hQ5 ?hy5 (by assumption) ?rest5
    case hi5 => (simp only [List.getElem?_toArray, List.getElem?_cons_zero, List.getElem?_cons_succ]; rfl)
    case hQ5 => exact fun _ _ _ h => h
    case hy5 => exact Or.inl ⟨by rfl, by (intro w hSw; (try dsimp only at hSw); go_simp )⟩
    simp only [Act.put, List.setIfInBounds_toArray, List.set_cons_zero, List.set_cons_succ]
    refine wpAnyH_take (i := 4) (oi := ?oi6) (v := .int .i64 ((k + 1 : Nat) : Int)) ?hi6 (by kernel_rfl) (by kernel_rfl) (by kernel_rfl) ?hQ6 ?hy6 (by assumption) ?rest6
    case hi6 => (simp only [List.getElem?_toArray, List.getElem?_cons_zero, List.getElem?_cons_succ]; rfl)
    case hQ6 => exact fun _ _ _ h => h
    case hy6 => exact Or.inl ⟨by rfl, by (intro w hSw; (try dsimp only at hSw); go_simp )⟩
    simp only [Act.put, List.setIfInBounds_toArray, List.set_cons_zero, List.set_cons_succ]
    refine wpAnyH_take (i := 5) (oi := ?oi7) (v := .slice (some ⟨gb, 0, none⟩) (m + 1 - (k + 1)) (0)) ?hi7 (by kernel_rfl) (by kernel_rfl) (by kernel_rfl) ?hQ7 ?hy7 (by assumption) ?rest7
    case hi7 => (simp only [List.getElem?_toArray, List.getElem?_cons_zero, List.getElem?_cons_succ]; rfl)
    case hQ7 => exact fun _ _ _ h => h
    case hy7 => exact Or.inl ⟨by rfl, by (intro w hSw; (try dsimp only at hSw); go_simp  <;> (intro q; omega))⟩
    simp only [Act.put, List.setIfInBounds_toArray, List.set_cons_zero, List.set_cons_succ]
    refine wpAnyH_ready (rs := [6]) (by kernel_rfl) (by simp) ?_
    refine AllReadyH.cons (o := ?oi1) ?hi1 (fun K hK => ?_) AllReadyH.nil
    case hi1 => (simp only [List.getElem?_toArray, List.getElem?_cons_zero, List.getElem?_cons_succ]; rfl)
    rw [if_pos (by rfl)]
    obtain ⟨V2, a1, a2, a3⟩ := run_append_fits (P := Tryz.prog) (w := V) B 51 51 102 iR 6 Tryz.underlying51 qR1 qR3 gb k cap (reqL (l.take k)) hP ⟨gb, 0, none⟩ (m + 1 - (k + 1)) (0) (reqL (l.drop (k + 1))) HDE.out (fun j u hu => by rw [List.getElem?_eq_none (by rw [HDE.out]; omega)] at hu; cases hu) HD1.out (by omega)
    rw [reqL_erase, show k + (m + 1 - (k + 1)) = m by omega] at a2
    rw [show k + (m + 1 - (k + 1)) = m by omega] at a1
    refine wp_appv a1 rfl rfl ?_
    replace hK0 := hK0.grow a3
    refine hK.out _ _ ?_ (fun hHeld => ?_)
    · exact Nat.lt_of_lt_of_le hHeld a3.size
    clear hK K
    simp only [Act.put, List.setIfInBounds_toArray, List.set_cons_zero, List.set_cons_succ]
    refine wpAnyH_take (i := 7) (oi := ?oi8) (v := .slice (some ⟨gb, 0, none⟩) m cap) ?hi8 (by kernel_rfl) (by kernel_rfl) (by kernel_rfl) ?hQ8 ?hy8 (by assumption) ?rest8
    case hi8 => (simp only [List.getElem?_toArray, List.getElem?_cons_zero, List.getElem?_cons_succ]; rfl)
    case hQ8 => exact fun _ _ _ h => h
    case hy8 => exact Or.inl ⟨by rfl, by (intro w hSw; (try dsimp only at hSw); go_simp )⟩
    simp only [Act.put, List.setIfInBounds_toArray, List.set_cons_zero, List.set_cons_succ]
    refine wpAnyH_done (by kernel_rfl) ?_ _
    clear hHeld hP hdc a1 a3
    obtain ⟨cur, hcr, hcz, hcap⟩ : ∃ cur, RowAt V2 gb cur 102 ∧ cur.size = cap * 6 ∧ m ≤ cap := by
      rcases a2.2 with ⟨h1, _⟩ | ⟨g', cap', cur1, h1, h2, h3, h4, h5, h6, h7⟩
      · cases h1
      · injection h1 with e1 e2 e3
        cases e1
        subst e3
        exact ⟨cur1, h3, h6, by omega⟩
    have HA2 := hide a2
    have hfit : m * 6 + 1 * (zeroRq.c nilS).size ≤ cur.size := by rw [hcz, show (zeroRq.c nilS).size = 6 from rfl]; omega
    have HCR := hide hcr
    clear hcp
    have hle := a2
    clear a2 hle
    have l1 : (m : Int) ≤ (cap : Int) := by omega
    have l2 : ((m + 1 : Nat) : Int) ≤ (cap : Int) := by omega
    have l3 : ¬ (cap : Int) = (m : Int) := by omega
    have l4 : ¬ cap = m := by omega
    go_wp2_with (first | ((with_reducible refine op_clear 51 102 Tryz.underlying51 (zeroRq.c nilS) zero_rq (by decide) (by decide) gb (m * 6) 1 (cap - m) (by decide) cur _ hcr hfit ?_ ?_); exact rfl; intro W cur' hnew hsz hkeep ho; replace hK0 := hK0.only ho))
    go_ret
    have hlen : (l.eraseIdx k).length = m := by rw [List.length_eraseIdx_of_lt (by rw [HN.out]; exact hk), HN.out]; rfl
    have hfin := own_front (m := m) HA2.out HCR.out hnew hsz hkeep (Nat.le_refl _)
    rw [List.take_of_length_le (by rw [reqL_len, hlen]; exact Nat.le_refl _)] at hfin
    exact ⟨_, rfl, by rw [hlen]; exact hfin, rfl, gb, rfl, hK0⟩
  · have j1 : ¬ cap < k := by omega
    have j2 : ¬ m + 1 < k + 1 := by omega
    go_enter Tryz.func49, Tryz.ntmps49
    go_wp2_with (fail)
    refine wp_region_held_drew (S := fun V => gb < V.heap.size) (by kernel_rfl) ?_ (fun hHeld => ?_)
    · exact hr.dr.lt
    have hP := own_dr HP.out
    have hdc : ∀ j u, (reqL (l.drop (k + 1)))[j]? = some u → w.drew.cell? ⟨gb, (k + 1) * 6 + j, none⟩ = some u := HDC.out
    have hK0 := But1.dr gb w
    generalize World.drew _ = V at hHeld hP hdc hK0 ⊢
    clear hr
    refine wpAnyH_take (i := 0) (oi := ?oi10) (v := .slice (some ⟨gb, 0, none⟩) (m + 1) cap) ?hi10 (by kernel_rfl) (by kernel_rfl) (by kernel_rfl) ?hQ10 ?hy10 (by assumption) ?rest10
    case hi10 => (simp only [List.getElem?_toArray, List.getElem?_cons_zero]; rfl)
    case hQ10 => exact fun _ _ _ h => h
    case hy10 => exact Or.inl ⟨by rfl, by (intro w hSw; (try dsimp only at hSw); go_simp )⟩
    simp only [Act.put, List.setIfInBounds_toArray, List.set_cons_zero, List.set_cons_succ]
    refine wpAnyH_take (i := 1) (oi := ?oi11) (v := .int .i64 (k : Nat)) ?hi11 (by kernel_rfl) (by kernel_rfl) (by kernel_rfl) ?hQ11 ?hy11 (by assumption) ?rest11
    case hi11 => (simp only [List.getElem?_toArray, List.getElem?_cons_zero, List.getElem?_cons_succ]; rfl)
    case hQ11 => exact fun _ _ _ h => h
    case hy11 => exact Or.inl ⟨by rfl, by (intro w hSw; (try dsimp only at hSw); go_simp )⟩
    simp only [Act.put, List.setIfInBounds_toArray, List.set_cons_zero, List.set_cons_succ]
    refine wpAnyH_take (i := 2) (oi := ?oi12) (v := .slice (some ⟨gb, 0, none⟩) k cap) ?hi12 (by kernel_rfl) (by kernel_rfl) (by kernel_rfl) ?hQ12 ?hy12 (by assumption) ?rest12
    case hi12 => (simp only [List.getElem?_toArray, List.getElem?_cons_zero, List.getElem?_cons_succ]; rfl)
    case hQ12 => exact fun _ _ _ h => h
    case hy12 => exact Or.inl ⟨by rfl, by (intro w hSw; (try dsimp only at hSw); go_simp  <;> (intro q; omega))⟩
    simp only [Act.put, List.setIfInBounds_toArray, List.set_cons_zero, List.set_cons_succ]
    refine wpAnyH_take (i := 3) (oi := ?oi13) (v := .slice (some ⟨gb, 0, none⟩) (m + 1) cap) ?hi13 (by kernel_rfl) (by kernel_rfl) (by kernel_rfl) ?hQ13 ?hy13 (by assumption) ?rest13
    case hi13 => (simp only [List.getElem?_toArray, List.getElem?_cons_zero, List.getElem?_cons_succ]; rfl)
    case hQ13 => exact fun _ _ _ h => h
    case hy13 => exact Or.inl ⟨by rfl, by (intro w hSw; (try dsimp only at hSw); go_simp )⟩
    simp only [Act.put, List.setIfInBounds_toArray, List.set_cons_zero, List.set_cons_succ]
    refine wpAnyH_take (i := 4) (oi := ?oi14) (v := .int .i64 ((k + 1 : Nat) : Int)) ?hi14 (by kernel_rfl) (by kernel_rfl) (by kernel_rfl) ?hQ14 ?hy14 (by assumption) ?rest14
    case hi14 => (simp only [List.getElem?_toArray, List.getElem?_cons_zero, List.getElem?_cons_succ]; rfl)
    case hQ14 => exact fun _ _ _ h => h
    case hy14 => exact Or.inl ⟨by rfl, by (intro w hSw; (try dsimp only at hSw); go_simp )⟩
    simp only [Act.put, List.setIfInBounds_toArray, List.set_cons_zero, List.set_cons_succ]
    refine wpAnyH_take (i := 5) (oi := ?oi15) (v := .slice (some ⟨gb, (k + 1) * 6, none⟩) (m + 1 - (k + 1)) (cap - (k + 1))) ?hi15 (by kernel_rfl) (by kernel_rfl) (by kernel_rfl) ?hQ15 ?hy15 (by assumption) ?rest15
    case hi15 => (simp only [List.getElem?_toArray, List.getElem?_cons_zero, List.getElem?_cons_succ]; rfl)
    case hQ15 => exact fun _ _ _ h => h
    case hy15 => exact Or.inl ⟨by rfl, by (intro w hSw; (try dsimp only at hSw); go_simp  <;> (intro q; omega))⟩
    simp only [Act.put, List.setIfInBounds_toArray, List.set_cons_zero, List.set_cons_succ]
    refine wpAnyH_ready (rs := [6]) (by kernel_rfl) (by simp) ?_
    refine AllReadyH.cons (o := ?oi9) ?hi9 (fun K hK => ?_) AllReadyH.nil
    case hi9 => (simp only [List.getElem?_toArray, List.getElem?_cons_zero, List.getElem?_cons_succ]; rfl)
    rw [if_pos (by rfl)]
    obtain ⟨V2, a1, a2, a3⟩ := run_append_fits (P := Tryz.prog) (w := V) B 51 51 102 iR 6 Tryz.underlying51 qR1 qR3 gb k cap (reqL (l.take k)) hP ⟨gb, (k + 1) * 6, none⟩ (m + 1 - (k + 1)) (cap - (k + 1)) (reqL (l.drop (k + 1))) HDE.out (fun j u hu => by have := hdc j u hu; unfold Addr.add; split <;> simp_all) HD1.out (by omega)
    rw [reqL_erase, show k + (m + 1 - (k + 1)) = m by omega] at a2
    rw [show k + (m + 1 - (k + 1)) = m by omega] at a1
    refine wp_appv a1 rfl rfl ?_
    replace hK0 := hK0.grow a3
    refine hK.out _ _ ?_ (fun hHeld => ?_)
    · exact Nat.lt_of_lt_of_le hHeld a3.size
    clear hK K
    simp only [Act.put, List.setIfInBounds_toArray, List.set_cons_zero, List.set_cons_succ]
    refine wpAnyH_take (i := 7) (oi := ?oi16) (v := .slice (some ⟨gb, 0, none⟩) m cap) ?hi16 (by kernel_rfl) (by kernel_rfl) (by kernel_rfl) ?hQ16 ?hy16 (by assumption) ?rest16
    case hi16 => (simp only [List.getElem?_toArray, List.getElem?_cons_zero, List.getElem?_cons_succ]; rfl)
    case hQ16 => exact fun _ _ _ h => h
    case hy16 => exact Or.inl ⟨by rfl, by (intro w hSw; (try dsimp only at hSw); go_simp )⟩
    simp only [Act.put, List.setIfInBounds_toArray, List.set_cons_zero, List.set_cons_succ]
    refine wpAnyH_done (by kernel_rfl) ?_ _
    clear hHeld hP hdc a1 a3
    obtain ⟨cur, hcr, hcz, hcap⟩ : ∃ cur, RowAt V2 gb cur 102 ∧ cur.size = cap * 6 ∧ m ≤ cap := by
      rcases a2.2 with ⟨h1, _⟩ | ⟨g', cap', cur1, h1, h2, h3, h4, h5, h6, h7⟩
      · cases h1
      · injection h1 with e1 e2 e3
        cases e1
        subst e3
        exact ⟨cur1, h3, h6, by omega⟩
    have HA2 := hide a2
    have hfit : m * 6 + 1 * (zeroRq.c nilS).size ≤ cur.size := by rw [hcz, show (zeroRq.c nilS).size = 6 from rfl]; omega
    have HCR := hide hcr
    clear hcp
    have hle := a2
    clear a2 hle
    have l1 : (m : Int) ≤ (cap : Int) := by omega
    have l2 : ((m + 1 : Nat) : Int) ≤ (cap : Int) := by omega
    have l3 : ¬ (cap : Int) = (m : Int) := by omega
    have l4 : ¬ cap = m := by omega
    go_wp2_with (first | ((with_reducible refine op_clear 51 102 Tryz.underlying51 (zeroRq.c nilS) zero_rq (by decide) (by decide) gb (m * 6) 1 (cap - m) (by decide) cur _ hcr hfit ?_ ?_); exact rfl; intro W cur' hnew hsz hkeep ho; replace hK0 := hK0.only ho))
    go_ret
    have hlen : (l.eraseIdx k).length = m := by rw [List.length_eraseIdx_of_lt (by rw [HN.out]; exact hk), HN.out]; rfl
    have hfin := own_front (m := m) HA2.out HCR.out hnew hsz hkeep (Nat.le_refl _)
    rw [List.take_of_length_le (by rw [reqL_len, hlen]; exact Nat.le_refl _)] at hfin
    exact ⟨_, rfl, by rw [hlen]; exact hfin, rfl, gb, rfl, hK0⟩
end Go.Proofs.YtaaiockiojejeaaGreatDoor
namespace Go.Proofs.YtaaiockiojejeaaGreatDoor
open Go.RowKit
set_option linter.unusedVariables false
set_option linter.unusedSimpArgs false

theorem BytesO.bl {w W : World} {O : Nat → Prop} {la : Option Addr} {l : List Nat} (h : BytesO w O la l) (hb : Below w.heap.size w W) : BytesO W O la l :=
  ⟨fun h0 => by
    obtain ⟨b, o, e, h1, h2, h3⟩ := h.lies h0
    exact ⟨b, o, e, Nat.lt_of_lt_of_le h1 hb.size, h2, fun j hj => (hb.cell (p := ⟨b, o + j, none⟩) h1).trans (h3 j hj)⟩, h.small⟩
theorem gave_none {e : Ending} (h : GaveE none e) : ∃ z : Int, e = .returned (.tuple #[.agg zeroRg.cells, .iface 129 (.int .i64 z)]) := by
  rcases h.ex with ⟨r, q, _⟩ | ⟨_, z, e⟩
  · cases q
  · exact ⟨z, e⟩
theorem gave_some {r : Rg} {e : Ending} (h : GaveE (some r) e) : e = .returned (.tuple #[.agg r.cells, .nilIface]) := by
  rcases h.ex with ⟨r', q, e⟩ | ⟨q, _⟩
  · cases q; exact e
  · cases q
set_option maxHeartbeats 2000000 in
theorem ans_no (s : Bk) (ok : s.p.Ok) (v : Value) (hv : v.oneCell' = true) (hd : Int) (l : List Sg) (hl : l.length ≤ 1000) (hw : ∀ g ∈ l, g.Ok) {lv : Value} {Bl : Nat} (bl : List Nat) (bcap : Nat) (ba : Option Addr) {w : World} {B b p c : Nat} {f : Nat → Nat} {O : Nat → Prop} (h : RamB w B b p f c O) (hA : AreasAt w) (hG : 2 < B) (hL : w.ownsRow Bl 103 3 lv l.length (segL l)) (hbl : BytesO w O ba bl) (hbc : bl.length ≤ bcap) (hbm : bcap ≤ 9223372036854775807) (hb32 : bl.length < 4294967296) (hc9 : c ≤ 800000000) (hs : scatE p l bl.length ≠ 0) : Calls Tryz.prog 51 #[.agg (s.c v), .pointer (some ⟨b, 0, none⟩), .int .i64 hd, lv, .slice ba bl.length bcap] w fun e w' => e = .returned (.agg ((ansV p f s hd l bl).2.c v)) ∧ ∃ O', RamB w' B b p (ansV p f s hd l bl).1 (c + l.length + 3) O' ∧ Went B O O' w w' := by
  have e1 : ansV p f s hd l bl = (f, s.fail) := by unfold ansV; rw [if_neg hs]
  rw [e1]
  have HS : Hid (∀ W, Below w.heap.size w W → Calls Tryz.prog 93 #[.pointer (some ⟨b, 0, none⟩), lv, .slice ba bl.length bcap] W fun e w' => e = .returned (errR (scatE p l bl.length)) ∧ ∃ O', RamB w' B b p (if scatE p l bl.length = 0 then scatF f (partsV true bl.length l) bl else f) (c + l.length) O' ∧ Went B O O' W w') := hide (fun W hb => scato_any l hl hw bl bcap ba (h.bl hb) (hA.bl hb) hG (own_bel hL hb) (hbl.bl hb) hbc hbm (by omega))
  have HFl := hide (fun w => failed_any s ok v hv w)
  rw [if_neg hs] at HS
  have hE : ∃ z : Int, errR (scatE p l bl.length) = .iface 129 (.int .i64 z) := ⟨_, by unfold errR; rw [if_neg hs]⟩
  obtain ⟨z, hz⟩ := hE
  rw [hz] at HS
  obtain ⟨av, cap, rfl, _, _⟩ := own_form hL
  generalize bl.length = M at *
  clear hz hs e1 hbl hL
  have hB0 := h.base
  have hGw : 2 < w.heap.size := Nat.lt_of_lt_of_le hG hB0
  have hA0 := hA
  clear hA
  go_enter Tryz.func51, Tryz.ntmps51
  go_wp2_with (first | ((with_reducible refine bx_bk w.heap.size s v ?_ ?_ ?_); exact rfl; exact rfl; intro W hr hb hz) | ((with_reducible refine al_bk (w.heap.size + 1) ?_ ?_); exact hz.out; intro W hq hb' hz'; replace hr := hr.bl (hz.out ▸ hb'); replace hb := hb.trans (hb'.mono (by omega)); replace hz := hz'; have hM := h.bl hb; have hW := Went.of (O := O) hb hB0; have hA := hA0.bl hb; have hF := h.far 2; have hS : w.heap.size + 2 ≤ W.heap.size := Nat.le_of_eq hz.out.symm; have hB : B ≤ W.heap.size := Nat.le_trans hB0 hb.size; have HB := hide hb; clear hb hz hb' hz') | (go_at_call 93; (with_reducible refine (HS.out _ HB.out).mono ?_); rintro e W2 ⟨rfl, O2, hM2, hW2⟩; clear HB; replace hr := hW2.row hr (hF.at 0 (by omega)); replace hq := hW2.row hq (hF.at 1 (by omega)); replace hA := hA.wentR hG hW2; replace hF := hF.went hW2 hS; replace hS := Nat.le_trans hS hW2.size; replace hW := hW.trans hW2; replace hB := Nat.le_trans hB hW2.size; replace hM := hM2; clear hM2 hW2) | ((with_reducible refine ld_bk w.heap.size s _ hr ?_ ?_ ?_); exact rfl; exact rfl) | (go_at_call 32; (with_reducible refine (HFl.out _).mono ?_); rintro e W ⟨rfl, hbc⟩; replace hM := hM.bl hbc; replace hW := hW.bl hbc hB; replace hA := hA.bl hbc; replace hB := Nat.le_trans hB hbc.size; replace hS := Nat.le_trans hS hbc.size; replace hr := hr.bl hbc; replace hq := hq.bl hbc) | ((with_reducible refine st_bk (w.heap.size + 1) _ _ s.fail v hv hq ?_ ?_ ?_); exact rfl; exact rfl; intro W hnew ho; replace hr := hr.only ho (by omega); replace hM := hM.only ho (hF.at 1 (by omega)); replace hA := hA.onlyR ho (by omega); replace hW := hW.only ho (by omega) (by omega); replace hS := (show w.heap.size + 2 ≤ W.heap.size by rw [ho.size]; exact hS); replace hB := (show B ≤ W.heap.size by rw [ho.size]; exact hB); replace hq := hnew; clear hnew ho))
  refine bodyPost_ret (results_cell_row Tryz.results51 _ _ (w.heap.size + 1) _ _ _ _ rfl hq Tryz.underlying53 rfl size_bk) rfl ?_
  exact ⟨rfl, _, hM.more (by omega), hW⟩
set_option maxHeartbeats 2000000 in
theorem ans_half (s : Bk) (ok : s.p.Ok) (v : Value) (hv : v.oneCell' = true) (hd : Int) (l : List Sg) (hl : l.length ≤ 1000) (hw : ∀ g ∈ l, g.Ok) {lv : Value} {Bl : Nat} (bl : List Nat) (bcap : Nat) (ba : Option Addr) {w : World} {B b p c : Nat} {f : Nat → Nat} {O : Nat → Prop} (h : RamB w B b p f c O) (hA : AreasAt w) (hG : 2 < B) (hL : w.ownsRow Bl 103 3 lv l.length (segL l)) (hbl : BytesO w O ba bl) (hbc : bl.length ≤ bcap) (hbm : bcap ≤ 9223372036854775807) (hb32 : bl.length < 4294967296) (hc9 : c ≤ 800000000) (hs : scatE p l bl.length = 0) (hg0 : (giveV p (scatF f (partsV true bl.length l) bl) s.p.q0.r hd bl.length).2 = none) : Calls Tryz.prog 51 #[.agg (s.c v), .pointer (some ⟨b, 0, none⟩), .int .i64 hd, lv, .slice ba bl.length bcap] w fun e w' => e = .returned (.agg ((ansV p f s hd l bl).2.c v)) ∧ ∃ O', RamB w' B b p (ansV p f s hd l bl).1 (c + l.length + 3) O' ∧ Went B O O' w w' := by
  have e1 : ansV p f s hd l bl = ((giveV p (scatF f (partsV true bl.length l) bl) s.p.q0.r hd bl.length).1, s.fail) := by unfold ansV; rw [if_pos hs, hg0]
  rw [e1]
  clear e1
  have HS : Hid (∀ W, Below w.heap.size w W → Calls Tryz.prog 93 #[.pointer (some ⟨b, 0, none⟩), lv, .slice ba bl.length bcap] W fun e w' => e = .returned (errR (scatE p l bl.length)) ∧ ∃ O', RamB w' B b p (if scatE p l bl.length = 0 then scatF f (partsV true bl.length l) bl else f) (c + l.length) O' ∧ Went B O O' W w') := hide (fun W hb => scato_any l hl hw bl bcap ba (h.bl hb) (hA.bl hb) hG (own_bel hL hb) (hbl.bl hb) hbc hbm (by omega))
  have HFl := hide (fun w => failed_any s ok v hv w)
  have HG : Hid (∀ W O1, RamB W B b p (scatF f (partsV true bl.length l) bl) (c + l.length) O1 → AreasAt W → Calls Tryz.prog 94 #[.agg s.p.q0.r.cells, .pointer (some ⟨b, 0, none⟩), .int .i64 hd, .int .u32 (bl.length : Nat)] W fun e w' => GaveE (giveV p (scatF f (partsV true bl.length l) bl) s.p.q0.r hd bl.length).2 e ∧ ∃ O', RamB w' B b p (giveV p (scatF f (partsV true bl.length l) bl) s.p.q0.r hd bl.length).1 (c + l.length + 1 + 1 + 1) O' ∧ Went B O1 O' W w') := hide (fun W O1 hM hA => give_any s.p.q0.r ok.q0 hM hA hG hd bl.length hb32 (by omega))
  rw [if_pos hs] at HS
  rw [hs, show errR 0 = .nilIface from rfl] at HS
  have e32 : IntKind.u32.wrap (bl.length : Int) = (bl.length : Int) := by rw [IntKind.wrap_u32]; omega
  obtain ⟨av, cap, rfl, _, _⟩ := own_form hL
  generalize scatF f (partsV true bl.length l) bl = f1 at *
  generalize giveV p f1 s.p.q0.r hd bl.length = gg at *
  obtain ⟨f2, gr⟩ := gg
  simp only at HG hg0 ⊢
  subst hg0
  generalize bl.length = M at *
  clear hs hbl hL
  have hB0 := h.base
  have hGw : 2 < w.heap.size := Nat.lt_of_lt_of_le hG hB0
  have hA0 := hA
  clear hA
  go_enter Tryz.func51, Tryz.ntmps51
  go_wp2_with (first | ((with_reducible refine bx_bk w.heap.size s v ?_ ?_ ?_); exact rfl; exact rfl; intro W hr hb hz) | ((with_reducible refine al_bk (w.heap.size + 1) ?_ ?_); exact hz.out; intro W hq hb' hz'; replace hr := hr.bl (hz.out ▸ hb'); replace hb := hb.trans (hb'.mono (by omega)); replace hz := hz'; have hM := h.bl hb; have hW := Went.of (O := O) hb hB0; have hA := hA0.bl hb; have hF := h.far 2; have hS : w.heap.size + 2 ≤ W.heap.size := Nat.le_of_eq hz.out.symm; have hB : B ≤ W.heap.size := Nat.le_trans hB0 hb.size; have HB := hide hb; clear hb hz hb' hz') | (go_at_call 93; (with_reducible refine (HS.out _ HB.out).mono ?_); rintro e W2 ⟨rfl, O2, hM2, hW2⟩; clear HB; replace hr := hW2.row hr (hF.at 0 (by omega)); replace hq := hW2.row hq (hF.at 1 (by omega)); replace hA := hA.wentR hG hW2; replace hF := hF.went hW2 hS; replace hS := Nat.le_trans hS hW2.size; replace hW := hW.trans hW2; replace hB := Nat.le_trans hB hW2.size; replace hM := hM2; clear hM2 hW2) | ((with_reducible refine ld_br w.heap.size s _ _ hr ?_ ?_ ?_); exact rfl; exact rfl) | (go_at_call 94; (with_reducible refine (HG.out _ _ hM hA).mono ?_); rintro e W2 ⟨hgv, O2, hM2, hW2⟩; obtain ⟨z, rfl⟩ := gave_none hgv; clear hgv; replace hr := hW2.row hr (hF.at 0 (by omega)); replace hq := hW2.row hq (hF.at 1 (by omega)); replace hA := hA.wentR hG hW2; replace hF := hF.went hW2 hS; replace hS := Nat.le_trans hS hW2.size; replace hW := hW.trans hW2; replace hB := Nat.le_trans hB hW2.size; replace hM := hM2; clear hM2 hW2; obtain ⟨NX, hNX0⟩ : ∃ n, W2.heap.size = n := ⟨_, rfl⟩; have hNX := hide hNX0; have hd1 : w.heap.size + 2 ≤ NX := hNX0 ▸ hS; clear hNX0) | ((with_reducible refine al_rp NX ?_ ?_); exact hNX.out; intro W hg hb' hz'; have hgO : ¬ O2 NX := (fun e => absurd (hM.lt NX e) (by rw [hNX.out]; omega)); have hbc := hNX.out ▸ hb'; replace hM := hM.bl hbc; replace hW := hW.bl hbc hB; replace hA := hA.bl hbc; replace hB := Nat.le_trans hB hbc.size; replace hS := Nat.le_trans hS hbc.size; replace hr := hr.bl hbc; replace hq := hq.bl hbc; clear hb' hbc) | ((with_reducible refine st_rp NX _ zeroRg hg ?_ ?_ ?_); exact rfl; exact rfl; intro W hnew ho; replace hr := hr.only ho (by omega); replace hq := hq.only ho (by omega); replace hM := hM.only ho hgO; replace hA := hA.onlyR ho (by omega); replace hW := hW.only ho (by omega) (by omega); replace hS := (show w.heap.size + 2 ≤ W.heap.size by rw [ho.size]; exact hS); replace hB := (show B ≤ W.heap.size by rw [ho.size]; exact hB); replace hg := hnew; clear hnew ho) | ((with_reducible refine ld_bk w.heap.size s _ hr ?_ ?_ ?_); exact rfl; exact rfl) | (go_at_call 32; (with_reducible refine (HFl.out _).mono ?_); rintro e W ⟨rfl, hbc⟩; replace hM := hM.bl hbc; replace hW := hW.bl hbc hB; replace hA := hA.bl hbc; replace hB := Nat.le_trans hB hbc.size; replace hS := Nat.le_trans hS hbc.size; replace hr := hr.bl hbc; replace hq := hq.bl hbc) | ((with_reducible refine st_bk (w.heap.size + 1) _ _ s.fail v hv hq ?_ ?_ ?_); exact rfl; exact rfl; intro W hnew ho; replace hr := hr.only ho (by omega); replace hM := hM.only ho (hF.at 1 (by omega)); replace hA := hA.onlyR ho (by omega); replace hW := hW.only ho (by omega) (by omega); replace hS := (show w.heap.size + 2 ≤ W.heap.size by rw [ho.size]; exact hS); replace hB := (show B ≤ W.heap.size by rw [ho.size]; exact hB); replace hq := hnew; clear hnew ho))
  refine bodyPost_ret (results_cell_row Tryz.results51 _ _ (w.heap.size + 1) _ _ _ _ rfl hq Tryz.underlying53 rfl size_bk) rfl ?_
  exact ⟨rfl, _, hM.more (by omega), hW⟩
set_option maxHeartbeats 2000000 in
theorem ans_ok (s : Bk) (ok : s.p.Ok) (v : Value) (hv : v.oneCell' = true) (hd : Int) (l : List Sg) (hl : l.length ≤ 1000) (hw : ∀ g ∈ l, g.Ok) {lv : Value} {Bl : Nat} (bl : List Nat) (bcap : Nat) (ba : Option Addr) {w : World} {B b p c : Nat} {f : Nat → Nat} {O : Nat → Prop} (h : RamB w B b p f c O) (hA : AreasAt w) (hG : 2 < B) (hL : w.ownsRow Bl 103 3 lv l.length (segL l)) (hbl : BytesO w O ba bl) (hbc : bl.length ≤ bcap) (hbm : bcap ≤ 9223372036854775807) (hb32 : bl.length < 4294967296) (hc9 : c ≤ 800000000) (hs : scatE p l bl.length = 0) (r : Rg) (hrg : r.Ok) (hg0 : (giveV p (scatF f (partsV true bl.length l) bl) s.p.q0.r hd bl.length).2 = some r) : Calls Tryz.prog 51 #[.agg (s.c v), .pointer (some ⟨b, 0, none⟩), .int .i64 hd, lv, .slice ba bl.length bcap] w fun e w' => e = .returned (.agg ((ansV p f s hd l bl).2.c v)) ∧ ∃ O', RamB w' B b p (ansV p f s hd l bl).1 (c + l.length + 3) O' ∧ Went B O O' w w' := by
  have e1 : ansV p f s hd l bl = ((giveV p (scatF f (partsV true bl.length l) bl) s.p.q0.r hd bl.length).1, (s.ring r).used) := by unfold ansV; rw [if_pos hs, hg0]
  rw [e1]
  clear e1
  have HS : Hid (∀ W, Below w.heap.size w W → Calls Tryz.prog 93 #[.pointer (some ⟨b, 0, none⟩), lv, .slice ba bl.length bcap] W fun e w' => e = .returned (errR (scatE p l bl.length)) ∧ ∃ O', RamB w' B b p (if scatE p l bl.length = 0 then scatF f (partsV true bl.length l) bl else f) (c + l.length) O' ∧ Went B O O' W w') := hide (fun W hb => scato_any l hl hw bl bcap ba (h.bl hb) (hA.bl hb) hG (own_bel hL hb) (hbl.bl hb) hbc hbm (by omega))
  have HG : Hid (∀ W O1, RamB W B b p (scatF f (partsV true bl.length l) bl) (c + l.length) O1 → AreasAt W → Calls Tryz.prog 94 #[.agg s.p.q0.r.cells, .pointer (some ⟨b, 0, none⟩), .int .i64 hd, .int .u32 (bl.length : Nat)] W fun e w' => GaveE (giveV p (scatF f (partsV true bl.length l) bl) s.p.q0.r hd bl.length).2 e ∧ ∃ O', RamB w' B b p (giveV p (scatF f (partsV true bl.length l) bl) s.p.q0.r hd bl.length).1 (c + l.length + 1 + 1 + 1) O' ∧ Went B O1 O' W w') := hide (fun W O1 hM hA => give_any s.p.q0.r ok.q0 hM hA hG hd bl.length hb32 (by omega))
  rw [if_pos hs] at HS
  rw [hs, show errR 0 = .nilIface from rfl] at HS
  have e32 : IntKind.u32.wrap (bl.length : Int) = (bl.length : Int) := by rw [IntKind.wrap_u32]; omega
  obtain ⟨av, cap, rfl, _, _⟩ := own_form hL
  generalize scatF f (partsV true bl.length l) bl = f1 at *
  generalize giveV p f1 s.p.q0.r hd bl.length = gg at *
  obtain ⟨f2, gr⟩ := gg
  simp only at HG hg0 ⊢
  subst hg0
  generalize bl.length = M at *
  clear hs hbl hL
  have hu : (s.ring r).p.Ok := ⟨ok.st, ok.fs, ok.ds, ok.se, ok.ir, ok.d0, ok.d1, hrg, ok.q1⟩
  obtain ⟨s1, hs1⟩ : ∃ x, s.ring r = x := ⟨_, rfl⟩
  have HS1 := hide hs1
  rw [hs1] at hu ⊢
  have HU := hide (fun w => used_any s1.p hu w)
  obtain ⟨s2, hs2⟩ : ∃ x, s1.pw (usedV s1.p) = x := ⟨_, rfl⟩
  have HS2 := hide hs2
  rw [show s1.used = s1.pw (usedV s1.p) from rfl, hs2]
  generalize usedV s1.p = up at *
  clear hs1 hs2 hu
  have hB0 := h.base
  have hGw : 2 < w.heap.size := Nat.lt_of_lt_of_le hG hB0
  have hA0 := hA
  clear hA
  go_enter Tryz.func51, Tryz.ntmps51
  go_wp2_with (first | ((with_reducible refine bx_bk w.heap.size s v ?_ ?_ ?_); exact rfl; exact rfl; intro W hr hb hz) | ((with_reducible refine al_bk (w.heap.size + 1) ?_ ?_); exact hz.out; intro W hq hb' hz'; replace hr := hr.bl (hz.out ▸ hb'); replace hb := hb.trans (hb'.mono (by omega)); replace hz := hz'; have hM := h.bl hb; have hW := Went.of (O := O) hb hB0; have hA := hA0.bl hb; have hF := h.far 2; have hS : w.heap.size + 2 ≤ W.heap.size := Nat.le_of_eq hz.out.symm; have hB : B ≤ W.heap.size := Nat.le_trans hB0 hb.size; have HB := hide hb; clear hb hz hb' hz') | (go_at_call 93; (with_reducible refine (HS.out _ HB.out).mono ?_); rintro e W2 ⟨rfl, O2, hM2, hW2⟩; clear HB; replace hr := hW2.row hr (hF.at 0 (by omega)); replace hq := hW2.row hq (hF.at 1 (by omega)); replace hA := hA.wentR hG hW2; replace hF := hF.went hW2 hS; replace hS := Nat.le_trans hS hW2.size; replace hW := hW.trans hW2; replace hB := Nat.le_trans hB hW2.size; replace hM := hM2; clear hM2 hW2) | ((with_reducible refine ld_br w.heap.size s _ _ hr ?_ ?_ ?_); exact rfl; exact rfl) | (go_at_call 94; (with_reducible refine (HG.out _ _ hM hA).mono ?_); rintro e W2 ⟨hgv, O2, hM2, hW2⟩; obtain rfl := gave_some hgv; clear hgv; replace hr := hW2.row hr (hF.at 0 (by omega)); replace hq := hW2.row hq (hF.at 1 (by omega)); replace hA := hA.wentR hG hW2; replace hF := hF.went hW2 hS; replace hS := Nat.le_trans hS hW2.size; replace hW := hW.trans hW2; replace hB := Nat.le_trans hB hW2.size; replace hM := hM2; clear hM2 hW2; obtain ⟨NX, hNX0⟩ : ∃ n, W2.heap.size = n := ⟨_, rfl⟩; have hNX := hide hNX0; have hd1 : w.heap.size + 2 ≤ NX := hNX0 ▸ hS; clear hNX0) | ((with_reducible refine al_rp NX ?_ ?_); exact hNX.out; intro W hg hb' hz'; have hgO : ¬ O2 NX := (fun e => absurd (hM.lt NX e) (by rw [hNX.out]; omega)); have hbc := hNX.out ▸ hb'; replace hM := hM.bl hbc; replace hW := hW.bl hbc hB; replace hA := hA.bl hbc; replace hB := Nat.le_trans hB hbc.size; replace hS := Nat.le_trans hS hbc.size; replace hr := hr.bl hbc; replace hq := hq.bl hbc; clear hb' hbc) | ((with_reducible refine st_rp NX _ r hg ?_ ?_ ?_); exact rfl; exact rfl; intro W hnew ho; replace hr := hr.only ho (by omega); replace hq := hq.only ho (by omega); replace hM := hM.only ho hgO; replace hA := hA.onlyR ho (by omega); replace hW := hW.only ho (by omega) (by omega); replace hS := (show w.heap.size + 2 ≤ W.heap.size by rw [ho.size]; exact hS); replace hB := (show B ≤ W.heap.size by rw [ho.size]; exact hB); replace hg := hnew; clear hnew ho) | ((with_reducible refine ld_rp NX r hg ?_ ?_ ?_); exact rfl; exact rfl) | ((with_reducible refine st_br w.heap.size s v r _ hr ?_ ?_ ?_); exact rfl; exact rfl; intro W hnew ho; rw [HS1.out] at hnew; replace hq := hq.only ho (by omega); replace hg := hg.only ho (by omega); replace hM := hM.only ho (hF.at 0 (by omega)); replace hA := hA.onlyR ho (by omega); replace hW := hW.only ho (by omega) (by omega); replace hS := (show w.heap.size + 2 ≤ W.heap.size by rw [ho.size]; exact hS); replace hB := (show B ≤ W.heap.size by rw [ho.size]; exact hB); replace hr := hnew; clear hnew ho) | ((with_reducible refine ld_bp w.heap.size s1 _ _ hr ?_ ?_ ?_); exact rfl; exact rfl) | (go_at_call 95; (with_reducible refine (HU.out _).mono ?_); rintro e W ⟨rfl, hbc⟩; replace hM := hM.bl hbc; replace hW := hW.bl hbc hB; replace hA := hA.bl hbc; replace hB := Nat.le_trans hB hbc.size; replace hS := Nat.le_trans hS hbc.size; replace hr := hr.bl hbc; replace hq := hq.bl hbc; replace hg := hg.bl hbc) | ((with_reducible refine st_bp w.heap.size s1 v up _ hr ?_ ?_ ?_); exact rfl; exact rfl; intro W hnew ho; rw [HS2.out] at hnew; replace hq := hq.only ho (by omega); replace hg := hg.only ho (by omega); replace hM := hM.only ho (hF.at 0 (by omega)); replace hA := hA.onlyR ho (by omega); replace hW := hW.only ho (by omega) (by omega); replace hS := (show w.heap.size + 2 ≤ W.heap.size by rw [ho.size]; exact hS); replace hB := (show B ≤ W.heap.size by rw [ho.size]; exact hB); replace hr := hnew; clear hnew ho) | ((with_reducible refine ld_bk w.heap.size s2 _ hr ?_ ?_ ?_); exact rfl; exact rfl) | ((with_reducible refine st_bk (w.heap.size + 1) _ _ s2 v hv hq ?_ ?_ ?_); exact rfl; exact rfl; intro W hnew ho; replace hr := hr.only ho (by omega); replace hg := hg.only ho (by omega); replace hM := hM.only ho (hF.at 1 (by omega)); replace hA := hA.onlyR ho (by omega); replace hW := hW.only ho (by omega) (by omega); replace hS := (show w.heap.size + 2 ≤ W.heap.size by rw [ho.size]; exact hS); replace hB := (show B ≤ W.heap.size by rw [ho.size]; exact hB); replace hq := hnew; clear hnew ho))
  refine bodyPost_ret (results_cell_row Tryz.results51 _ _ (w.heap.size + 1) _ _ _ _ rfl hq Tryz.underlying53 rfl size_bk) rfl ?_
  exact ⟨rfl, _, hM.more (by omega), hW⟩
theorem givenR_ok {p : Nat} {f : Nat → Nat} {r r' : Rg} {hd : Int} {n : Nat} (h : r.Ok) (e : (giveV p f r hd n).2 = some r') : r'.Ok := by
  unfold giveV at e
  repeat' split at e
  all_goals first
    | (cases e; exact ⟨h.sz0, h.sz1, h.de, h.av, h.us, h.la, Nat.mod_lt _ (by decide)⟩)
    | cases e
theorem answer_any (s : Bk) (ok : s.p.Ok) (v : Value) (hv : v.oneCell' = true) (hd : Int) (l : List Sg) (hl : l.length ≤ 1000) (hw : ∀ g ∈ l, g.Ok) {lv : Value} {Bl : Nat} (bl : List Nat) (bcap : Nat) (ba : Option Addr) {w : World} {B b p c : Nat} {f : Nat → Nat} {O : Nat → Prop} (h : RamB w B b p f c O) (hA : AreasAt w) (hG : 2 < B) (hL : w.ownsRow Bl 103 3 lv l.length (segL l)) (hbl : BytesO w O ba bl) (hbc : bl.length ≤ bcap) (hbm : bcap ≤ 9223372036854775807) (hb32 : bl.length < 4294967296) (hc9 : c ≤ 800000000) : Calls Tryz.prog 51 #[.agg (s.c v), .pointer (some ⟨b, 0, none⟩), .int .i64 hd, lv, .slice ba bl.length bcap] w fun e w' => e = .returned (.agg ((ansV p f s hd l bl).2.c v)) ∧ ∃ O', RamB w' B b p (ansV p f s hd l bl).1 (c + l.length + 3) O' ∧ Went B O O' w w' := by
  by_cases hs : scatE p l bl.length = 0
  · cases hg : (giveV p (scatF f (partsV true bl.length l) bl) s.p.q0.r hd bl.length).2 with
    | none => exact ans_half s ok v hv hd l hl hw bl bcap ba h hA hG hL hbl hbc hbm hb32 hc9 hs hg
    | some r => exact ans_ok s ok v hv hd l hl hw bl bcap ba h hA hG hL hbl hbc hbm hb32 hc9 hs r (givenR_ok ok.q0 hg) hg
  · exact ans_no s ok v hv hd l hl hw bl bcap ba h hA hG hL hbl hbc hbm hb32 hc9 hs
end Go.Proofs.YtaaiockiojejeaaGreatDoor
