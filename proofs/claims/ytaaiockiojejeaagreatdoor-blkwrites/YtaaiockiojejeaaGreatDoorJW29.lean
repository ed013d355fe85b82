/-
  What blk's lastByte answers.
-/
import Derived.Test.YtaaiockiojejeaaGreatDoorJW24
import Derived.Test.YtaaiockiojejeaaGreatDoorJW28
import Derived.Test.YtaaiockiojejeaaGreatDoorJW25
import Derived.Test.YtaaiockiojejeaaGreatDoorJW27
import Derived.Test.YtaaiockiojejeaaGreatDoorJW26
namespace Go.Proofs.YtaaiockiojejeaaGreatDoor
open Go.RowKit
set_option linter.unusedVariables false
set_option linter.unusedSimpArgs false

def lv0 : Bk := ⟨zeroV, 100, true, 0, []⟩
def lv1 : Bk := ⟨zeroV.stw 15, 100, true, 0, []⟩
def lv2 : Bk := ⟨(zeroV.stw 15).d1w 1, 100, true, 0, []⟩
def lvQ : Qu := ⟨true, lR 0 0⟩
variable {ops : Array Oper} {rest : List Oper} {dst : Option Tmp} {ty : TypeId} {pos : String} {after : Array Edge} {a : Act} {w : World} {Q : Exit → Act → World → Prop} {x y : Operand}
theorem st_l1 (b : Nat) (t' : TypeId) (hr : RowAt w b (lv0.c nilS) t') (hx : a.eval x = .pointer (some ⟨b, 0, none⟩)) (hy : a.eval y = .int .u32 15)
    (k : ∀ W, RowAt W b (lv1.c nilS) t' → Only b w W → wpList Tryz.prog ops Q rest (a.put dst undef) W) : wpList Tryz.prog ops Q (⟨dst, .store 22 x y, ty, pos, after, none⟩ :: rest) a w :=
  op_store_cell b 0 hx _ hy (lv0.c nilS) _ _ hr size_u32i (by show 0 < 25; decide) rfl rfl k
theorem st_l2 (b : Nat) (t' : TypeId) (hr : RowAt w b (lv1.c nilS) t') (hx : a.eval x = .pointer (some ⟨b, 5, none⟩)) (hy : a.eval y = .agg #[.int .u32 0, .int .u32 1])
    (k : ∀ W, RowAt W b (lv2.c nilS) t' → Only b w W → wpList Tryz.prog ops Q rest (a.put dst undef) W) : wpList Tryz.prog ops Q (⟨dst, .store 23 x y, ty, pos, after, none⟩ :: rest) a w :=
  op_store_mid b 5 hx #[.int .u32 0, .int .u32 1] hy (lv1.c nilS) _ _ hr size_drv (by show 5 + 2 ≤ 25; decide) (by simp [Value.oneCell']) (by kernel_rfl) k
theorem st_l3 (b : Nat) (t' : TypeId) (hr : RowAt w b (lv2.c nilS) t') (hx : a.eval x = .pointer (some ⟨b, 7, none⟩)) (hy : a.eval y = .agg lvQ.cells)
    (k : ∀ W, RowAt W b (lvS.c nilS) t' → Only b w W → wpList Tryz.prog ops Q rest (a.put dst undef) W) : wpList Tryz.prog ops Q (⟨dst, .store 47 x y, ty, pos, after, none⟩ :: rest) a w :=
  op_store_mid b 7 hx lvQ.cells hy (lv2.c nilS) _ _ hr size_qp (by show 7 + 7 ≤ 25; decide) (by kernel_rfl) (by kernel_rfl) k
set_option maxHeartbeats 1000000 in
theorem blive_any (w : World) : Calls Tryz.prog 20 #[] w fun e w' => e = .returned (.agg (lvS.c nilS)) ∧ Below w.heap.size w w' := by
  go_enter Tryz.func20, Tryz.ntmps20
  go_wp2_with (first | ((with_reducible refine al_bk w.heap.size ?_ ?_); exact rfl; intro W hq hb hz) | ((with_reducible refine al_bk (w.heap.size + 1) ?_ ?_); exact hz.out; intro W hr hb' hz'; replace hq := hq.bl (hz.out ▸ hb'); replace hb := hb.trans (hb'.mono (by omega)); clear hb' hz') | ((with_reducible refine st_bk (w.heap.size + 1) _ _ lv0 nilS rfl hr ?_ ?_ ?_); exact rfl; exact rfl; intro W hnew ho; replace hb := ho.bel _ _ (by omega) hb; replace hq := hq.only ho (by omega); replace hr := hnew; clear hnew ho) | ((with_reducible refine st_l1 (w.heap.size + 1) _ hr ?_ ?_ ?_); exact rfl; exact rfl; intro W hnew ho; replace hb := ho.bel _ _ (by omega) hb; replace hq := hq.only ho (by omega); clear hr; have hr := hnew; clear hnew ho) | ((with_reducible refine st_l2 (w.heap.size + 1) _ hr ?_ ?_ ?_); exact rfl; exact rfl; intro W hnew ho; replace hb := ho.bel _ _ (by omega) hb; replace hq := hq.only ho (by omega); clear hr; have hr := hnew; clear hnew ho) | ((with_reducible refine st_l3 (w.heap.size + 1) _ hr ?_ ?_ ?_); exact rfl; exact rfl; intro W hnew ho; replace hb := ho.bel _ _ (by omega) hb; replace hq := hq.only ho (by omega); clear hr; have hr := hnew; clear hnew ho) | ((with_reducible refine ld_bk (w.heap.size + 1) lvS nilS hr ?_ ?_ ?_); exact rfl; exact rfl) | ((with_reducible refine st_bk w.heap.size _ _ lvS nilS rfl hq ?_ ?_ ?_); exact rfl; exact rfl; intro W hnew ho; replace hb := ho.bel _ _ (by omega) hb; replace hq := hnew; clear hnew ho))
  refine bodyPost_ret (results_cell_row Tryz.results20 _ _ w.heap.size _ _ _ _ rfl hq Tryz.underlying53 rfl size_bk) rfl ?_
  exact ⟨rfl, hb⟩
end Go.Proofs.YtaaiockiojejeaaGreatDoor
namespace Go.Proofs.YtaaiockiojejeaaGreatDoor
open Go.RowKit

def suG : Nat → Nat → Nat
  | 0, 0 => 0 | 0, _ => 2147484416 | 1, 0 => 8 | 1, _ => 16 | 2, 0 => 12 | 2, _ => 65537 | 3, 0 => 16 | 3, _ => 2147487744 | 4, 0 => 24 | 4, _ => 513 | 5, 0 => 28 | 5, _ => 2
  | 6, 0 => 256 | 6, _ => 65536 | _, 0 => 776 | _, _ => 3
def suF : Nat → Nat := laidW suG 8
def suQ : Rq := ⟨0, 0, false, 3, 512, [⟨2147487744, 513, true⟩]⟩
def suS : Bk := ⟨lvP 1 0 0, 100, false, 1, [suQ]⟩
theorem su_pol : polV 2 suF lvS = ⟨suF, suS, [⟨0, false, 3, 512, []⟩]⟩ := by kernel_rfl
theorem su_ans : (ansV 2 suF suS 0 [⟨2147487744, 513, true⟩] (List.replicate 512 0 ++ [0])).2 = ⟨lvP 1 1 1, 100, false, 1, [suQ]⟩ := by kernel_rfl
end Go.Proofs.YtaaiockiojejeaaGreatDoor
namespace Go.Proofs.YtaaiockiojejeaaGreatDoor
open Go.RowKit
set_option linter.unusedVariables false
set_option linter.unusedSimpArgs false

theorem reqL_erase (l : List (Rq × Value)) (k : Nat) : reqL (l.take k) ++ reqL (l.drop (k + 1)) = reqL (l.eraseIdx k) := by
  rw [← reqL_app, List.eraseIdx_eq_take_drop_succ]
theorem reqL_take (l : List (Rq × Value)) (k : Nat) : (reqL l).take (k * 6) = reqL (l.take k) := by
  by_cases h : k ≤ l.length
  · have e : reqL l = reqL (l.take k) ++ reqL (l.drop k) := by rw [← reqL_app, List.take_append_drop]
    rw [e, List.take_left' (by rw [reqL_len, List.length_take]; omega)]
  · rw [List.take_of_length_le (by rw [reqL_len]; omega), List.take_of_length_le (by omega)]
theorem reqL_drop (l : List (Rq × Value)) (k j : Nat) (u : Value) (h : (reqL (l.drop k))[j]? = some u) : (reqL l)[k * 6 + j]? = some u := by
  by_cases hk : k ≤ l.length
  · have e : reqL l = reqL (l.take k) ++ reqL (l.drop k) := by rw [← reqL_app, List.take_append_drop]
    have hl : (reqL (l.take k)).length = k * 6 := by rw [reqL_len, List.length_take]; omega
    rw [e, List.getElem?_append_right (by omega), hl, show k * 6 + j - k * 6 = j by omega]; exact h
  · rw [List.drop_of_length_le (by omega)] at h; cases h
/-- All but one block is as it was. -/
structure But1 (g : Nat) (w W : World) : Prop where
  size : w.heap.size ≤ W.heap.size
  row : ∀ x, x < w.heap.size → x ≠ g → W.heap[x]? = w.heap[x]?
  bel : ∀ B w0, B ≤ g → B ≤ w.heap.size → Below B w0 w → Below B w0 W
theorem But1.dr (g : Nat) (w : World) : But1 g w w.drew := ⟨Nat.le_refl _, fun _ _ _ => rfl, fun _ _ _ _ h => h.drew⟩
theorem But1.grow {g : Nat} {w W W' : World} (h : But1 g w W) (hg : W.grownBy W' (some g)) : But1 g w W' :=
  ⟨Nat.le_trans h.size hg.size, fun x hx hn => (hg.block x (Nat.lt_of_lt_of_le hx h.size) (fun e => hn (by cases e; rfl))).trans (h.row x hx hn), fun B w0 h1 h2 h3 => grow_below (h.bel B w0 h1 h2 h3) hg (Nat.le_trans h2 h.size) (fun x e => by cases e; exact h1)⟩
theorem But1.only {g : Nat} {w W W' : World} (h : But1 g w W) (ho : Only g W W') : But1 g w W' :=
  ⟨by rw [ho.size]; exact h.size, fun x hx hn => (ho.row x hn).trans (h.row x hx hn), fun B w0 h1 h2 h3 => ho.bel B w0 h1 (h.bel B w0 h1 h2 h3)⟩
theorem wp_appv {P : Program} {dst : Option Tmp} {t : TypeId} {pos : String} {after : Array Edge} {a : Act} {w W : World} {x y : Operand} {v1 v2 r : Value} {K : Act → World → Prop} {Q : Exit → Act → World → Prop}
    (h : (Builtin.append_ #[t, t] t #[v1, v2]).run P w = .ok r W) (hx : a.eval x = v1) (hy : a.eval y = v2) (k : K (a.put dst r) W) :
    Oper.wp P ⟨dst, .call { callee := .builtin .append, args := #[x, y], argTypes := #[t, t] }, t, pos, after, none⟩ a w K Q := by
  unfold Oper.wp
  have : (execOp a.eval ⟨dst, .call { callee := .builtin .append, args := #[x, y], argTypes := #[t, t] }, t, pos, after, none⟩).run P w = .ok (.value r) W := by
    simp [execOp, resolve, invoke, builtin, hx, hy, h, Result.andThen]
  rw [this, Oper.upon_value]
  exact k
set_option maxRecDepth 20000 in
set_option maxHeartbeats 4000000 in
theorem del_any (l : List (Rq × Value)) (hl : l.length ≤ 1000) (k : Nat) (hk : k < l.length) (h1 : ∀ u ∈ reqL l, u.oneCell' = true) {w : World} {B : Nat} {v : Value} (hL : w.ownsRow B 102 6 v l.length (reqL l)) :
    Calls Tryz.prog 49 #[v, .int .i64 (k : Nat), .int .i64 ((k + 1 : Nat) : Int)] w fun e w' => ∃ v', e = .returned v' ∧ w'.ownsRow B 102 6 v' (l.eraseIdx k).length (reqL (l.eraseIdx k)) ∧ v'.ownBlock = v.ownBlock ∧ ∃ g, v.ownBlock = some g ∧ But1 g w w' := by
  obtain ⟨n, hn⟩ : ∃ n, l.length = n := ⟨_, rfl⟩
  obtain ⟨m, rfl⟩ : ∃ m, n = m + 1 := ⟨n - 1, by omega⟩
  obtain ⟨gb, cap, cur0, rfl, hc1, hc2, hgB, hr, hcs, htk⟩ := own_row hL (by omega)
  obtain ⟨iR, qR1, qR2, qR3, qR4⟩ := info_r
  have HN := hide hn
  have hP := own_front (m := k) hL hr hr rfl (fun _ _ => rfl) (by omega)
  rw [reqL_take] at hP
  rw [hn] at hl hk hc1 ⊢
  have HP := hide hP
  have hde : (reqL (l.drop (k + 1))).length = (m + 1 - (k + 1)) * 6 := by rw [reqL_len, List.length_drop, hn]
  have hdc : ∀ j u, (reqL (l.drop (k + 1)))[j]? = some u → w.cell? ⟨gb, (k + 1) * 6 + j, none⟩ = some u := fun j u hu => by
    have h3 := reqL_drop l (k + 1) j u hu
    rw [← htk, List.getElem?_take] at h3
    split at h3
    · rw [Array.getElem?_toList] at h3
      exact (hr.cell _).trans h3
    · cases h3
  have hd1 : ∀ u ∈ reqL (l.drop (k + 1)), u.oneCell' = true := fun u hu => by
    obtain ⟨j, hj⟩ := List.getElem?_of_mem hu
    exact h1 u (List.mem_of_getElem? (reqL_drop l (k + 1) j u hj))
  have HDE := hide hde
  have HDC := hide hdc
  have HD1 := hide hd1
  clear hL hn hP hde hdc hd1 htk h1
  have i1 : (k : Int) ≤ ((m + 1 : Nat) : Int) := by omega
  have i2 : ((k + 1 : Nat) : Int) ≤ ((m + 1 : Nat) : Int) := by omega
  by_cases hcp : cap = k + 1
  · have j1 : ¬ cap < k := by omega
    have j2 : ¬ m + 1 < k + 1 := by omega
    go_enter Tryz.func49, Tryz.ntmps49
    go_wp2_with (fail)
    refine wp_region_held_drew (S := fun V => gb < V.heap.size) (by kernel_rfl) ?_ (fun hHeld => ?_)
    · exact hr.dr.lt
    have hP := own_dr HP.out
    have hdc : ∀ j u, (reqL (l.drop (k + 1)))[j]? = some u → w.drew.cell? ⟨gb, (k + 1) * 6 + j, none⟩ = some u := HDC.out
    have hK0 := But1.dr gb w
    generalize World.drew _ = V at hHeld hP hdc hK0 ⊢
    clear hr
    refine wpAnyH_take (i := 0) (oi := ?oi2) (v := .slice (some ⟨gb, 0, none⟩) (m + 1) cap) ?hi2 (by kernel_rfl) (by kernel_rfl) (by kernel_rfl) ?hQ2 ?hy2 (by assumption) ?rest2
    case hi2 => (simp only [List.getElem?_toArray, List.getElem?_cons_zero]; rfl)
    case hQ2 => exact fun _ _ _ h => h
    case hy2 => exact Or.inl ⟨by rfl, by (intro w hSw; (try dsimp only at hSw); go_simp )⟩
    simp only [Act.put, List.setIfInBounds_toArray, List.set_cons_zero, List.set_cons_succ]
    refine wpAnyH_take (i := 1) (oi := ?oi3) (v := .int .i64 (k : Nat)) ?hi3 (by kernel_rfl) (by kernel_rfl) (by kernel_rfl) ?hQ3 ?hy3 (by assumption) ?rest3
    case hi3 => (simp only [List.getElem?_toArray, List.getElem?_cons_zero, List.getElem?_cons_succ]; rfl)
    case hQ3 => exact fun _ _ _ h => h
    case hy3 => exact Or.inl ⟨by rfl, by (intro w hSw; (try dsimp only at hSw); go_simp )⟩
    simp only [Act.put, List.setIfInBounds_toArray, List.set_cons_zero, List.set_cons_succ]
    refine wpAnyH_take (i := 2) (oi := ?oi4) (v := .slice (some ⟨gb, 0, none⟩) k cap) ?hi4 (by kernel_rfl) (by kernel_rfl) (by kernel_rfl) ?hQ4 ?hy4 (by assumption) ?rest4
    case hi4 => (simp only [List.getElem?_toArray, List.getElem?_cons_zero, List.getElem?_cons_succ]; rfl)
    case hQ4 => exact fun _ _ _ h => h
    case hy4 => exact Or.inl ⟨by rfl, by (intro w hSw; (try dsimp only at hSw); go_simp  <;> (intro q; omega))⟩
    simp only [Act.put, List.setIfInBounds_toArray, List.set_cons_zero, List.set_cons_succ]
    refine wpAnyH_take (i := 3) (oi := ?oi5) (v := .slice (some ⟨gb, 0, none⟩) (m + 1) cap) ?hi5 (by kernel_rfl) (by kernel_rfl) (by kernel_rfl) ?hQ5 ?hy5 (by assumption) ?rest5
    case hi5 => (simp only [List.getElem?_toArray, List.getElem?_cons_zero, List.getElem?_cons_succ]; rfl)
    case hQ5 => exact fun _ _ _ h => h
    case hy5 => exact Or.inl ⟨by rfl, by (intro w hSw; (try dsimp only at hSw); go_simp )⟩
    simp only [Act.put, List.setIfInBounds_toArray, List.set_cons_zero, List.set_cons_succ]
    refine wpAnyH_take (i := 4) (oi := ?oi6) (v := .int .i64 ((k + 1 : Nat) : Int)) ?hi6 (by kernel_rfl) (by kernel_rfl) (by kernel_rfl) ?hQ6 ?hy6 (by assumption) ?rest6
    case hi6 => (simp only [List.getElem?_toArray, List.getElem?_cons_zero, List.getElem?_cons_succ]; rfl)
    case hQ6 => exact fun _ _ _ h => h
    case hy6 => exact Or.inl ⟨by rfl, by (intro w hSw; (try dsimp only at hSw); go_simp )⟩
    simp only [Act.put, List.setIfInBounds_toArray, List.set_cons_zero, List.set_cons_succ]
    refine wpAnyH_take (i := 5) (oi := ?oi7) (v := .slice (some ⟨gb, 0, none⟩) (m + 1 - (k + 1)) (0)) ?hi7 (by kernel_rfl) (by kernel_rfl) (by kernel_rfl) ?hQ7 ?hy7 (by assumption) ?rest7
    case hi7 => (simp only [List.getElem?_toArray, List.getElem?_cons_zero, List.getElem?_cons_succ]; rfl)
    case hQ7 => exact fun _ _ _ h => h
    case hy7 => exact Or.inl ⟨by rfl, by (intro w hSw; (try dsimp only at hSw); go_simp  <;> (intro q; omega))⟩
    simp only [Act.put, List.setIfInBounds_toArray, List.set_cons_zero, List.set_cons_succ]
    refine wpAnyH_ready (rs := [6]) (by kernel_rfl) (by simp) ?_
    refine AllReadyH.cons (o := ?oi1) ?hi1 (fun K hK => ?_) AllReadyH.nil
    case hi1 => (simp only [List.getElem?_toArray, List.getElem?_cons_zero, List.getElem?_cons_succ]; rfl)
    rw [if_pos (by rfl)]
    obtain ⟨V2, a1, a2, a3⟩ := run_append_fits (P := Tryz.prog) (w := V) B 51 51 102 iR 6 Tryz.underlying51 qR1 qR3 gb k cap (reqL (l.take k)) hP ⟨gb, 0, none⟩ (m + 1 - (k + 1)) (0) (reqL (l.drop (k + 1))) HDE.out (fun j u hu => by rw [List.getElem?_eq_none (by rw [HDE.out]; omega)] at hu; cases hu) HD1.out (by omega)
    rw [reqL_erase, show k + (m + 1 - (k + 1)) = m by omega] at a2
    rw [show k + (m + 1 - (k + 1)) = m by omega] at a1
    refine wp_appv a1 rfl rfl ?_
    replace hK0 := hK0.grow a3
    refine hK.out _ _ ?_ (fun hHeld => ?_)
    · exact Nat.lt_of_lt_of_le hHeld a3.size
    clear hK K
    simp only [Act.put, List.setIfInBounds_toArray, List.set_cons_zero, List.set_cons_succ]
    refine wpAnyH_take (i := 7) (oi := ?oi8) (v := .slice (some ⟨gb, 0, none⟩) m cap) ?hi8 (by kernel_rfl) (by kernel_rfl) (by kernel_rfl) ?hQ8 ?hy8 (by assumption) ?rest8
    case hi8 => (simp only [List.getElem?_toArray, List.getElem?_cons_zero, List.getElem?_cons_succ]; rfl)
    case hQ8 => exact fun _ _ _ h => h
    case hy8 => exact Or.inl ⟨by rfl, by (intro w hSw; (try dsimp only at hSw); go_simp )⟩
    simp only [Act.put, List.setIfInBounds_toArray, List.set_cons_zero, List.set_cons_succ]
    refine wpAnyH_done (by kernel_rfl) ?_ _
    clear hHeld hP hdc a1 a3
    obtain ⟨cur, hcr, hcz, hcap⟩ : ∃ cur, RowAt V2 gb cur 102 ∧ cur.size = cap * 6 ∧ m ≤ cap := by
      rcases a2.2 with ⟨h1, _⟩ | ⟨g', cap', cur1, h1, h2, h3, h4, h5, h6, h7⟩
      · cases h1
      · injection h1 with e1 e2 e3
        cases e1
        subst e3
        exact ⟨cur1, h3, h6, by omega⟩
    have HA2 := hide a2
    have hfit : m * 6 + 1 * (zeroRq.c nilS).size ≤ cur.size := by rw [hcz, show (zeroRq.c nilS).size = 6 from rfl]; omega
    have HCR := hide hcr
    clear hcp
    have hle := a2
    clear a2 hle
    have l1 : (m : Int) ≤ (cap : Int) := by omega
    have l2 : ((m + 1 : Nat) : Int) ≤ (cap : Int) := by omega
    have l3 : ¬ (cap : Int) = (m : Int) := by omega
    have l4 : ¬ cap = m := by omega
    go_wp2_with (first | ((with_reducible refine op_clear 51 102 Tryz.underlying51 (zeroRq.c nilS) zero_rq (by decide) (by decide) gb (m * 6) 1 (cap - m) (by decide) cur _ hcr hfit ?_ ?_); exact rfl; intro W cur' hnew hsz hkeep ho; replace hK0 := hK0.only ho))
    go_ret
    have hlen : (l.eraseIdx k).length = m := by rw [List.length_eraseIdx_of_lt (by rw [HN.out]; exact hk), HN.out]; rfl
    have hfin := own_front (m := m) HA2.out HCR.out hnew hsz hkeep (Nat.le_refl _)
    rw [List.take_of_length_le (by rw [reqL_len, hlen]; exact Nat.le_refl _)] at hfin
    exact ⟨_, rfl, by rw [hlen]; exact hfin, rfl, gb, rfl, hK0⟩
  · have j1 : ¬ cap < k := by omega
    have j2 : ¬ m + 1 < k + 1 := by omega
    go_enter Tryz.func49, Tryz.ntmps49
    go_wp2_with (fail)
    refine wp_region_held_drew (S := fun V => gb < V.heap.size) (by kernel_rfl) ?_ (fun hHeld => ?_)
    · exact hr.dr.lt
    have hP := own_dr HP.out
    have hdc : ∀ j u, (reqL (l.drop (k + 1)))[j]? = some u → w.drew.cell? ⟨gb, (k + 1) * 6 + j, none⟩ = some u := HDC.out
    have hK0 := But1.dr gb w
    generalize World.drew _ = V at hHeld hP hdc hK0 ⊢
    clear hr
    refine wpAnyH_take (i := 0) (oi := ?oi10) (v := .slice (some ⟨gb, 0, none⟩) (m + 1) cap) ?hi10 (by kernel_rfl) (by kernel_rfl) (by kernel_rfl) ?hQ10 ?hy10 (by assumption) ?rest10
    case hi10 => (simp only [List.getElem?_toArray, List.getElem?_cons_zero]; rfl)
    case hQ10 => exact fun _ _ _ h => h
    case hy10 => exact Or.inl ⟨by rfl, by (intro w hSw; (try dsimp only at hSw); go_simp )⟩
    simp only [Act.put, List.setIfInBounds_toArray, List.set_cons_zero, List.set_cons_succ]
    refine wpAnyH_take (i := 1) (oi := ?oi11) (v := .int .i64 (k : Nat)) ?hi11 (by kernel_rfl) (by kernel_rfl) (by kernel_rfl) ?hQ11 ?hy11 (by assumption) ?rest11
    case hi11 => (simp only [List.getElem?_toArray, List.getElem?_cons_zero, List.getElem?_cons_succ]; rfl)
    case hQ11 => exact fun _ _ _ h => h
    case hy11 => exact Or.inl ⟨by rfl, by (intro w hSw; (try dsimp only at hSw); go_simp )⟩
    simp only [Act.put, List.setIfInBounds_toArray, List.set_cons_zero, List.set_cons_succ]
    refine wpAnyH_take (i := 2) (oi := ?oi12) (v := .slice (some ⟨gb, 0, none⟩) k cap) ?hi12 (by kernel_rfl) (by kernel_rfl) (by kernel_rfl) ?hQ12 ?hy12 (by assumption) ?rest12
    case hi12 => (simp only [List.getElem?_toArray, List.getElem?_cons_zero, List.getElem?_cons_succ]; rfl)
    case hQ12 => exact fun _ _ _ h => h
    case hy12 => exact Or.inl ⟨by rfl, by (intro w hSw; (try dsimp only at hSw); go_simp  <;> (intro q; omega))⟩
    simp only [Act.put, List.setIfInBounds_toArray, List.set_cons_zero, List.set_cons_succ]
    refine wpAnyH_take (i := 3) (oi := ?oi13) (v := .slice (some ⟨gb, 0, none⟩) (m + 1) cap) ?hi13 (by kernel_rfl) (by kernel_rfl) (by kernel_rfl) ?hQ13 ?hy13 (by assumption) ?rest13
    case hi13 => (simp only [List.getElem?_toArray, List.getElem?_cons_zero, List.getElem?_cons_succ]; rfl)
    case hQ13 => exact fun _ _ _ h => h
    case hy13 => exact Or.inl ⟨by rfl, by (intro w hSw; (try dsimp only at hSw); go_simp )⟩
    simp only [Act.put, List.setIfInBounds_toArray, List.set_cons_zero, List.set_cons_succ]
    refine wpAnyH_take (i := 4) (oi := ?oi14) (v := .int .i64 ((k + 1 : Nat) : Int)) ?hi14 (by kernel_rfl) (by kernel_rfl) (by kernel_rfl) ?hQ14 ?hy14 (by assumption) ?rest14
    case hi14 => (simp only [List.getElem?_toArray, List.getElem?_cons_zero, List.getElem?_cons_succ]; rfl)
    case hQ14 => exact fun _ _ _ h => h
    case hy14 => exact Or.inl ⟨by rfl, by (intro w hSw; (try dsimp only at hSw); go_simp )⟩
    simp only [Act.put, List.setIfInBounds_toArray, List.set_cons_zero, List.set_cons_succ]
    refine wpAnyH_take (i := 5) (oi := ?oi15) (v := .slice (some ⟨gb, (k + 1) * 6, none⟩) (m + 1 - (k + 1)) (cap - (k + 1))) ?hi15 (by kernel_rfl) (by kernel_rfl) (by kernel_rfl) ?hQ15 ?hy15 (by assumption) ?rest15
    case hi15 => (simp only [List.getElem?_toArray, List.getElem?_cons_zero, List.getElem?_cons_succ]; rfl)
    case hQ15 => exact fun _ _ _ h => h
    case hy15 => exact Or.inl ⟨by rfl, by (intro w hSw; (try dsimp only at hSw); go_simp  <;> (intro q; omega))⟩
    simp only [Act.put, List.setIfInBounds_toArray, List.set_cons_zero, List.set_cons_succ]
    refine wpAnyH_ready (rs := [6]) (by kernel_rfl) (by simp) ?_
    refine AllReadyH.cons (o := ?oi9) ?hi9 (fun K hK => ?_) AllReadyH.nil
    case hi9 => (simp only [List.getElem?_toArray, List.getElem?_cons_zero, List.getElem?_cons_succ]; rfl)
    rw [if_pos (by rfl)]
    obtain ⟨V2, a1, a2, a3⟩ := run_append_fits (P := Tryz.prog) (w := V) B 51 51 102 iR 6 Tryz.underlying51 qR1 qR3 gb k cap (reqL (l.take k)) hP ⟨gb, (k + 1) * 6, none⟩ (m + 1 - (k + 1)) (cap - (k + 1)) (reqL (l.drop (k + 1))) HDE.out (fun j u hu => by have := hdc j u hu; unfold Addr.add; split <;> simp_all) HD1.out (by omega)
    rw [reqL_erase, show k + (m + 1 - (k + 1)) = m by omega] at a2
    rw [show k + (m + 1 - (k + 1)) = m by omega] at a1
    refine wp_appv a1 rfl rfl ?_
    replace hK0 := hK0.grow a3
    refine hK.out _ _ ?_ (fun hHeld => ?_)
    · exact Nat.lt_of_lt_of_le hHeld a3.size
    clear hK K
    simp only [Act.put, List.setIfInBounds_toArray, List.set_cons_zero, List.set_cons_succ]
    refine wpAnyH_take (i := 7) (oi := ?oi16) (v := .slice (some ⟨gb, 0, none⟩) m cap) ?hi16 (by kernel_rfl) (by kernel_rfl) (by kernel_rfl) ?hQ16 ?hy16 (by assumption) ?rest16
    case hi16 => (simp only [List.getElem?_toArray, List.getElem?_cons_zero, List.getElem?_cons_succ]; rfl)
    case hQ16 => exact fun _ _ _ h => h
    case hy16 => exact Or.inl ⟨by rfl, by (intro w hSw; (try dsimp only at hSw); go_simp )⟩
    simp only [Act.put, List.setIfInBounds_toArray, List.set_cons_zero, List.set_cons_succ]
    refine wpAnyH_done (by kernel_rfl) ?_ _
    clear hHeld hP hdc a1 a3
    obtain ⟨cur, hcr, hcz, hcap⟩ : ∃ cur, RowAt V2 gb cur 102 ∧ cur.size = cap * 6 ∧ m ≤ cap := by
      rcases a2.2 with ⟨h1, _⟩ | ⟨g', cap', cur1, h1, h2, h3, h4, h5, h6, h7⟩
      · cases h1
      · injection h1 with e1 e2 e3
        cases e1
        subst e3
        exact ⟨cur1, h3, h6, by omega⟩
    have HA2 := hide a2
    have hfit : m * 6 + 1 * (zeroRq.c nilS).size ≤ cur.size := by rw [hcz, show (zeroRq.c nilS).size = 6 from rfl]; omega
    have HCR := hide hcr
    clear hcp
    have hle := a2
    clear a2 hle
    have l1 : (m : Int) ≤ (cap : Int) := by omega
    have l2 : ((m + 1 : Nat) : Int) ≤ (cap : Int) := by omega
    have l3 : ¬ (cap : Int) = (m : Int) := by omega
    have l4 : ¬ cap = m := by omega
    go_wp2_with (first | ((with_reducible refine op_clear 51 102 Tryz.underlying51 (zeroRq.c nilS) zero_rq (by decide) (by decide) gb (m * 6) 1 (cap - m) (by decide) cur _ hcr hfit ?_ ?_); exact rfl; intro W cur' hnew hsz hkeep ho; replace hK0 := hK0.only ho))
    go_ret
    have hlen : (l.eraseIdx k).length = m := by rw [List.length_eraseIdx_of_lt (by rw [HN.out]; exact hk), HN.out]; rfl
    have hfin := own_front (m := m) HA2.out HCR.out hnew hsz hkeep (Nat.le_refl _)
    rw [List.take_of_length_le (by rw [reqL_len, hlen]; exact Nat.le_refl _)] at hfin
    exact ⟨_, rfl, by rw [hlen]; exact hfin, rfl, gb, rfl, hK0⟩
end Go.Proofs.YtaaiockiojejeaaGreatDoor
namespace Go.Proofs.YtaaiockiojejeaaGreatDoor
open Go.RowKit Go.Shelf
set_option linter.unusedVariables false

attribute [local go_sem] Oper.semAt_some
def wrS (s : Sg) : Bool := s.wr && decide (0 < s.n)
def oneB (s : Sg) : List Sg := if (s.at' : Int) + s.n - 1 ≤ 4294967295 then [⟨(s.at' + s.n.toNat - 1), 1, true⟩] else []
theorem lasB_eq : ∀ l : List Sg, lasB l = (match l.reverse.find? wrS with | some s => oneB s | none => [])
  | [] => rfl
  | s :: t => by
    rw [lasB, List.reverse_cons, List.find?_append]
    by_cases h : (t.any fun s => s.wr && decide (0 < s.n)) = true
    · rw [if_pos h, lasB_eq t]
      obtain ⟨x, hx, hw⟩ := List.any_eq_true.1 h
      cases hf : t.reverse.find? wrS with
      | some y => rfl
      | none => exact absurd hw (by have := List.find?_eq_none.1 hf x (List.mem_reverse.2 hx); exact this)
    · rw [if_neg h]
      have hn : t.reverse.find? wrS = none := List.find?_eq_none.2 (fun x hx hw => h (List.any_eq_true.2 ⟨x, List.mem_reverse.1 hx, hw⟩))
      rw [hn]
      by_cases hs : wrS s = true
      · rw [if_pos (show (s.wr && decide (0 < s.n)) = true from hs)]
        simp [hs, oneB]
      · rw [if_neg (show ¬ (s.wr && decide (0 < s.n)) = true from hs)]
        simp [hs]
/-- What has come, and nothing of it is written. -/
def NoneW (pre : List PairS) : Prop := ∀ x ∈ pre, wrS x.2.1 = false
theorem noneW_snoc {pre : List PairS} {x : PairS} (h : NoneW pre) (hx : wrS x.2.1 = false) : NoneW (pre ++ [x]) := fun y hy => by
  rcases List.mem_append.1 hy with h1 | h1
  · exact h y h1
  · rw [List.mem_singleton.1 h1]; exact hx
theorem up_snd (l : List Sg) (g : Nat → SgO) (hg : ∀ j s, l[j]? = some s → (g j).1 = s) : ∀ k, k ≤ l.length → (upto (downS g l.length) k).map (·.2.1) = l.reverse.take k := by
  intro k hk
  apply List.ext_getElem?
  intro j
  rw [List.getElem?_take, List.getElem?_map]
  by_cases hj : j < k
  · rw [if_pos hj]
    have hjl : l.length - 1 - j < l.length := by omega
    have h1 : (upto (downS g l.length) k)[j]? = some (downS g l.length j) := by unfold upto; rw [List.getElem?_map, List.getElem?_range hj]; rfl
    rw [h1, List.getElem?_reverse (by omega)]
    have := hg (l.length - 1 - j) l[l.length - 1 - j] (List.getElem?_eq_getElem hjl)
    rw [List.getElem?_eq_getElem hjl]
    show some (g (l.length - 1 - j)).1 = _
    rw [this]
  · rw [if_neg hj, List.getElem?_eq_none (by rw [upto_length]; omega)]; rfl
theorem las_none (l : List Sg) (g : Nat → SgO) (hg : ∀ j s, l[j]? = some s → (g j).1 = s) (h : NoneW (upto (downS g l.length) l.length)) : lasB l = [] := by
  rw [lasB_eq]
  have hn : l.reverse.find? wrS = none := List.find?_eq_none.2 (fun x hx hw => by
    have hm := up_snd l g hg l.length (Nat.le_refl _)
    rw [List.take_of_length_le (by simp)] at hm
    rw [← hm] at hx
    obtain ⟨y, hy, rfl⟩ := List.mem_map.1 hx
    rw [h y hy] at hw; cases hw)
  rw [hn]
theorem las_some (l : List Sg) (g : Nat → SgO) (hg : ∀ j s, l[j]? = some s → (g j).1 = s) (k : Nat) (hk : k ≤ l.length) (pre : List PairS) (x : PairS) (e : pre ++ [x] = upto (downS g l.length) k) (h : NoneW pre) (hx : wrS x.2.1 = true) : lasB l = oneB x.2.1 := by
  rw [lasB_eq]
  have hm := up_snd l g hg k hk
  rw [← e, List.map_append] at hm
  have hf : l.reverse.find? wrS = some x.2.1 := by
    rw [← List.take_append_drop k l.reverse, ← hm, List.find?_append, List.find?_append]
    have hn : (pre.map (·.2.1)).find? wrS = none := List.find?_eq_none.2 (fun y hy hw => by
      obtain ⟨z, hz, rfl⟩ := List.mem_map.1 hy
      rw [h z hz] at hw; cases hw)
    rw [hn]
    simp [hx]
  rw [hf]
theorem row_grown {W W' : World} {row : Option Nat} {g : Nat} {cs : Array Value} {t : TypeId} (h : RowAt W g cs t) (hg : W.grownBy W' row) (hr : ∀ r, row = some r → ∃ o : Obj, W.heap[r]? = some o ∧ o.isCells = false) : RowAt W' g cs t :=
  (hg.block g h.lt (fun e => by
    obtain ⟨o, h1, h2⟩ := hr g e.symm
    have := h.symm.trans h1
    simp at this
    subst this
    cases h2)).trans h
theorem own_grown {W W' : World} {row : Option Nat} {B e sz n : Nat} {v : Value} {xs : List Value} (h : W.ownsRow B e sz v n xs) (hg : W.grownBy W' row) (hr : ∀ r, row = some r → ∃ o : Obj, W.heap[r]? = some o ∧ o.isCells = false) : W'.ownsRow B e sz v n xs :=
  own_at h (fun g hgb => by
    rcases h.2 with ⟨h1, _⟩ | ⟨g', cap, cur, h1, _, h3, _⟩
    · subst h1; cases hgb
    · subst h1; cases hgb
      exact (show W'.heap[g']? = W.heap[g']? from (row_grown (t := e) h3 hg hr).trans h3.symm))
theorem keeps_below {B : Nat} {W W' : World} (h : Below W.heap.size W W') : KeepsFrom B W W' := ⟨h.size, fun k o _ hk _ => (h.block k (Array.getElem?_eq_some_iff.1 hk).1).trans hk⟩
theorem keeps_put {w W W1 : World} (hs : w.heap.size + 1 + 1 ≤ W.heap.size) (h : Below W.heap.size W W1) (v : Value) : KeepsFrom (w.heap.size + 1 + 1) W (W1.setCell ⟨w.heap.size, 0, none⟩ v) :=
  ⟨by simp; exact h.size, fun k o hB hk _ => ((only_setCell w.heap.size 0 v W1).row k (by omega)).trans ((h.block k (Array.getElem?_eq_some_iff.1 hk).1).trans hk)⟩
theorem put_row {W : World} {D g : Nat} {cs : Array Value} {t : TypeId} {o o' : Obj} (h : RowAt W g cs t) (hD : W.heap[D]? = some o) (hn : o.isCells = false := by rfl) : RowAt (W.putObj D o') g cs t :=
  (World.putObj_heap_other (by
    intro e
    subst e
    have := h.symm.trans hD
    simp at this
    subst this
    cases hn)).trans h
theorem put_own {W : World} {D B e sz n : Nat} {v : Value} {xs : List Value} {o o' : Obj} (h : W.ownsRow B e sz v n xs) (hD : W.heap[D]? = some o) (hn : o.isCells = false := by rfl) : (W.putObj D o').ownsRow B e sz v n xs :=
  own_at h (fun g hgb => by
    rcases h.2 with ⟨h1, _⟩ | ⟨g', cap, cur, h1, _, h3, _⟩
    · subst h1; cases hgb
    · subst h1; cases hgb
      exact (put_row (t := e) (o' := o') h3 hD hn).trans h3.symm)
/-- At a return: what was found stands in the answer's place. -/
structure Found (w : World) (c : Code) (ps : List PairS) (W : World) : Prop where
  ex : ∃ pre x v, ps = pre ++ [x] ∧ NoneW pre ∧ wrS x.2.1 = true ∧ c = .ret ∧ RowAt W w.heap.size #[v] 100 ∧ W.ownsRow (w.heap.size + 1) 103 3 v (oneB x.2.1).length (segL (oneB x.2.1)) ∧ Below w.heap.size w W
set_option maxRecDepth 100000 in
set_option maxHeartbeats 4000000 in
theorem last_wide (l : List Sg) (hw : ∀ s ∈ l, s.Ok) (len : Nat) (hlen : l.length = len) (hl : len ≤ 1000) (b cap : Nat) (g : Nat → SgO) (hg : ∀ j s, l[j]? = some s → (g j).1 = s) (w : World) (hb : b < w.heap.size) (hc : SegAt w b 0 len g) :
    CallsIn Fence.wide 3 Tryz.prog 92 #[.slice (some ⟨b, 0, none⟩) len cap] w fun e W' => ∃ v', e = .returned v' ∧ W'.ownsRow w.heap.size 103 3 v' (lasB l).length (segL (lasB l)) ∧ Below w.heap.size w W' := by
  have h1 : 1 ≤ 3 := by omega
  have hro : Fence.wide.round = none := rfl
  refine callsIn_of_wp_marks Tryz.func92 rfl trivial ?_ hro
  simp only [Tryz.ntmps92, List.size_toArray, List.length_cons, List.length_nil, Nat.reduceAdd, Nat.reduceSub, Array.replicate_succ, Array.replicate_zero, List.push_toArray, List.append_toArray, List.nil_append, List.cons_append]
  gi_wp2_with (first | (refine ⟨trivial, ?_⟩; gi_at_call 125; refine (backs_in Fence.wide _ trivial hro _ _ _ _).mono ?_; rintro e w' ⟨rfl, rfl⟩))
  have bS := RowAt.new w w.heap.size #[.slice none 0 0] 100 rfl
  have bN := Boxed.new (w.alloc (.cells #[.slice none 0 0] 100)) 100 (.slice (some ⟨b, 0, none⟩) len cap)
  rw [World.size_alloc] at bN
  have hB0 : Below w.heap.size w ((w.alloc (.cells #[.slice none 0 0] 100)).alloc (.cells #[.slice (some ⟨b, 0, none⟩) len cap] 100)) := ((Below.refl _ w).alloc (Nat.le_refl _) _).alloc (by simp) _
  refine wpIn_rangeFunc_ownH hro h1 (gf := 147) (lb := #[.pointer (some ⟨w.heap.size + 1, 0, none⟩)]) rfl trivial (enters_of Tryz.func147 (by kernel_rfl) rfl)
    (backs_stops Fence.wide (3 - 1) trivial hro (by omega) (w.heap.size + 1) w.heap.size b 0 len cap g (by omega) hb _ (by simp) (by simp; omega) bN.cell (hc.bel hB0 hb)) KeepB.trans (KeepB.put (by simp; omega) (by simp)) (Below.refl _ _) (fun _ => rfl)
    (fun pre W => NoneW pre ∧ RowAt W w.heap.size #[.slice none 0 0] 100 ∧ Below w.heap.size w W ∧ w.heap.size + 2 ≤ W.heap.size)
    (fun c ps W => Found w c ps W)
    (fun s A B row hs hg hr => ⟨hs.1, row_grown hs.2.1 hg (fun r e => (hr r e).2), hs.2.2.1.grown hg hs.2.2.1.size (fun k e => by have := (hr k e).1; simp at this; omega), Nat.le_trans hs.2.2.2 hg.size⟩)
    (fun c s A B row hs hg hr => by
      obtain ⟨pre, x, v, e1, e2, e3, e4, e5, e6, e7⟩ := hs.ex
      exact ⟨⟨pre, x, v, e1, e2, e3, e4, row_grown e5 hg (fun r e => (hr r e).2), own_grown e6 hg (fun r e => (hr r e).2), e7.grown hg e7.size (fun k e => by have := (hr k e).1; simp at this; omega)⟩⟩)
    ⟨(fun x hx => by cases hx), (bS.al _), hB0, by simp⟩
    (fun x a' W => ∃ p, w.heap.size + 2 ≤ p ∧ a' = { tmps := #[.slice (some ⟨b, 0, none⟩) len cap, undef, .pointer (some ⟨w.heap.size, 0, none⟩), undef, .pointer (some ⟨p, 0, none⟩), undef, .slice (some ⟨b, 0, none⟩) len cap, .func (.func 147) #[] #[.pointer (some ⟨w.heap.size + 1, 0, none⟩)], .int .i64 (x.1 : Int), .agg x.2.1.cells, undef, undef, undef, undef, undef, undef, undef, undef, undef, undef, undef, undef, undef, undef, undef, undef, undef, undef, undef, undef, undef, undef], defers := [] } ∧ RowAt W p x.2.1.cells 103)
    (fun x a' s A B row hs hg hr => by
      obtain ⟨p, h1, h2, h3⟩ := hs
      exact ⟨p, h1, h2, row_grown h3 hg (fun r e => (hr r e).2)⟩)
    ?assign ?body ?done ?stop
  case assign =>
    rintro l pre x W K ⟨i1, i2, i3, i4⟩ hK
    have hz : ∀ w, (zeroValue 103).run Tryz.prog w = .ok (.agg zeroSg.cells) w := zero_sp
    have hr0 := RowAt.new W W.heap.size zeroSg.cells 103 rfl
    have hth := hr0.thereAt 0 3 (by decide)
    have hst := run_storeCells_cells (P := Tryz.prog) W.heap.size 0 x.2.1.cells.toList 0 (W.alloc (.cells zeroSg.cells 103)) (fun i hi => by have hq := (hth i hi).1; rwa [Nat.zero_add] at hq ⊢) (fun i hi => by have hq := (hth i hi).2; rwa [Nat.zero_add] at hq ⊢) (fun u hu => (Array.all_eq_true_iff_forall_mem.1 (sg_one x.2.1)) u (by simpa using hu))
    simp only [Nat.add_zero] at hst
    have hrw : RowAt ((W.alloc (.cells zeroSg.cells 103)).setCells W.heap.size 0 x.2.1.cells.toList) W.heap.size x.2.1.cells 103 := RowAt.puts x.2.1.cells.toList 0 hr0
    have hbw : Below W.heap.size W ((W.alloc (.cells zeroSg.cells 103)).setCells W.heap.size 0 x.2.1.cells.toList) := below_setCells (Nat.le_refl _) _ _ _ (below_one W _)
    have HB := hide (And.intro hrw hbw)
    clear hr0 hth hrw hbw
    gi_wp2
    have hB := HB.out.2
    exact hK _ _ (keeps_below hB) ⟨hB.mono (by omega), hB.block _ (by omega)⟩ ⟨i1, i2.bl hB, i3.trans (hB.mono i3.size), Nat.le_trans i4 hB.size⟩ ⟨W.heap.size, i4, rfl, HB.out.1⟩
  case body =>
    rintro lp pre x a' W hlp hlo ⟨i1, i2, i3, i4⟩ ⟨p, hp, rfl, hpr⟩ hN
    obtain ⟨xi, ⟨sa, sn, sw⟩, xok⟩ := x
    have c0 : W.cell? ⟨p, 0, none⟩ = some (.int .u32 (sa : Nat)) := hpr.cell 0
    have c1 : W.cell? ⟨p, 1, none⟩ = some (.int .i64 sn) := hpr.cell 1
    have c2 : W.cell? ⟨p, 2, none⟩ = some (.bool sw) := hpr.cell 2
    have r0 : W.cell? ⟨w.heap.size, 0, none⟩ = some (.slice none 0 0) := i2.cell 0
    have r1 : W.frozen? ⟨w.heap.size, 0, none⟩ = false := i2.thaw 0
    have r2 : ∀ o, (W.alloc o).cell? ⟨w.heap.size, 0, none⟩ = some (.slice none 0 0) := fun o => (i2.al o).cell 0
    have r3 : ∀ o, (W.alloc o).frozen? ⟨w.heap.size, 0, none⟩ = false := fun o => (i2.al o).thaw 0
    have HI := hide (And.intro i1 (And.intro i2 (And.intro i3 i4)))
    have HP := hide hpr
    have o1 : sa < 4294967296 := xok.at'
    have o2 : sn ≤ 9223372036854775807 := xok.n1
    clear i1 i2 i3 hpr hc hg bS bN hB0
    simp only
    cases sw with
    | false =>
      gi_wp2
      exact ⟨KeepsFrom.refl _ _, KeepB.refl _ _ _, noneW_snoc HI.out.1 rfl, HI.out.2⟩
    | true =>
      by_cases hs : 0 < sn
      · obtain ⟨m, rfl⟩ := Int.eq_ofNat_of_zero_le (show 0 ≤ sn by omega)
        have t0 : decide ((m : Int) ≤ 0) = false := by simp; omega
        have e1 : IntKind.u64.wrap (m : Int) = (m : Int) := by rw [IntKind.wrap_u64]; omega
        have e2 : IntKind.u64.wrap (sa : Int) = (sa : Int) := by rw [IntKind.wrap_u64]; omega
        have m0 : ¬ m = 0 := by omega
        have m1 : (m = 0) = False := by simp; omega
        have hw1 : wrS ⟨sa, (m : Int), true⟩ = true := by simp [wrS]; omega
        have HW1 := hide hw1
        by_cases hq : sa + m - 1 ≤ 4294967295
        · have HO : Hid (oneB ⟨sa, (m : Int), true⟩ = [⟨sa + m - 1, 1, true⟩]) := hide (by unfold oneB; rw [if_pos (by simp only; omega)]; simp)
          have t1 : decide ((sa : Int) + (m : Int) - 1 ≤ 4294967295) = true := by simp; omega
          have t2 : (sa : Int) + (m : Int) - 1 ≤ 4294967295 := by omega
          have HE : Hid (#[Value.int .u32 ((sa : Int) + (m : Int) - 1), .int .i64 1, .bool true] = (⟨sa + m - 1, 1, true⟩ : Sg).cells) := hide (by unfold Sg.cells; rw [show ((sa + m - 1 : Nat) : Int) = (sa : Int) + (m : Int) - 1 by omega])
          have HM0 := hide m0
          clear hw1 hs hq
          gi_wp2
          have hi2 := HI.out.2.1
          have hi3 := HI.out.2.2.1
          have hi4 := HI.out.2.2.2
          have hnew := RowAt.new W W.heap.size #[Value.int .u32 ((sa : Int) + (m : Int) - 1), .int .i64 1, .bool true] 103 rfl
          refine ⟨keeps_put (by omega) (below_one W _) _, ⟨pre, _, _, rfl, HI.out.1, HW1.out, rfl, (hi2.al _).put 0 _, ?_, (only_setCell _ _ _ _).bel _ _ (Nat.le_refl _) (hi3.trans ((below_one W _).mono hi3.size))⟩⟩
          rw [HO.out]
          have hrow := hnew.only (only_setCell w.heap.size 0 (.slice (some ⟨W.heap.size, 0, none⟩) 1 1) _) (by omega)
          rw [HE.out] at hrow ⊢
          exact own_of_segs (l := [⟨sa + m - 1, 1, true⟩]) hrow (by omega) rfl rfl (by decide) (fun j u hu => by rw [← Array.getElem?_toList]; rwa [segL_one] at hu)
        · have HO : Hid (oneB ⟨sa, (m : Int), true⟩ = []) := hide (by unfold oneB; rw [if_neg (by simp only; omega)])
          have t1 : decide ((sa : Int) + (m : Int) - 1 ≤ 4294967295) = false := by simp; omega
          have t2 : ¬ (sa : Int) + (m : Int) - 1 ≤ 4294967295 := by omega
          have HM0 := hide m0
          clear hw1 hs hq
          gi_wp2
          have hi2 := HI.out.2.1
          have hi3 := HI.out.2.2.1
          have hi4 := HI.out.2.2.2
          refine ⟨keeps_put (by omega) (Below.refl _ W) _, ⟨pre, _, _, rfl, HI.out.1, HW1.out, rfl, hi2.put 0 _, ?_, (only_setCell _ _ _ _).bel _ _ (Nat.le_refl _) hi3⟩⟩
          rw [HO.out]
          exact World.ownsRow_nil _ _ _ _
      · have t0 : decide (sn ≤ 0) = true := by simpa using hs
        have hw0 : wrS ⟨sa, sn, true⟩ = false := by simp [wrS]; omega
        have HW0 := hide hw0
        clear hw0
        gi_wp2
        exact ⟨KeepsFrom.refl _ _, KeepB.refl _ _ _, noneW_snoc HI.out.1 HW0.out, HI.out.2⟩
  case done =>
    rintro D ys W hD rfl ⟨i1, i2, i3, i4⟩ hK
    have r0 : W.cell? ⟨w.heap.size, 0, none⟩ = some (.slice none 0 0) := i2.cell 0
    have r1 : W.frozen? ⟨w.heap.size, 0, none⟩ = false := i2.thaw 0
    gi_wp2
    simp only [World.size_alloc] at hD
    have hK2 : (W.setCell ⟨w.heap.size, 0, none⟩ (.slice none 0 0)).heap[D]? = some (.deferred (some [])) := ((only_setCell w.heap.size 0 _ W).row D (by omega)).trans hK
    have hr2 : RowAt (W.setCell ⟨w.heap.size, 0, none⟩ (.slice none 0 0)) w.heap.size #[.slice none 0 0] 100 := i2.put 0 _
    have hb2 := (only_setCell w.heap.size 0 (.slice none 0 0) W).bel _ _ (Nat.le_refl _) i3
    generalize W.setCell ⟨w.heap.size, 0, none⟩ (.slice none 0 0) = V at *
    refine ⟨by simp, .inl ⟨_, _, rfl, run_takeDeferred hK2, ?_⟩⟩
    refine ⟨.slice none 0 0, ?_, _, rfl, ?_, hb2.trans (belowK_b (w := w) (Nat.le_refl _) V D _ _ (by omega) hK2 rfl rfl)⟩
    · have hc2 := fun o' => (put_row (o' := o') hr2 hK2).cell 0
      simp [results, Tryz.results92, go_sem, hc2]
    · rw [las_none l g hg (by rw [hlen]; exact i1)]
      exact World.ownsRow_nil _ _ _ _
  case stop =>
    rintro D c ps W hD ⟨k, hk, hps⟩ hf hK
    obtain ⟨pre, x, v, e1, e2, e3, rfl, e5, e6, e7⟩ := hf.ex
    gi_wp2
    simp only [World.size_alloc] at hD
    refine ⟨by simp, .inl ⟨_, _, rfl, run_takeDeferred hK, ?_⟩⟩
    refine ⟨v, ?_, _, rfl, ?_, e7.trans (belowK_b (w := w) (Nat.le_refl _) W D _ _ (by omega) hK rfl rfl)⟩
    · have hc2 := fun o' => (put_row (o' := o') e5 hK).cell 0
      simp [results, Tryz.results92, go_sem, hc2]
    · rw [las_some l g hg k (by omega) pre x (by rw [← e1, hlen]; exact hps) e2 e3]
      exact own_lower2 (put_own e6 hK) (by omega)
theorem last_any (l : List Sg) (hw : ∀ s ∈ l, s.Ok) (hl : l.length ≤ 1000) (hl0 : 0 < l.length) {w : World} {Bl : Nat} {v : Value} (hL : w.ownsRow Bl 103 3 v l.length (segL l)) :
    Calls Tryz.prog 92 #[v] w fun e w' => ∃ v', e = .returned v' ∧ w'.ownsRow w.heap.size 103 3 v' (lasB l).length (segL (lasB l)) ∧ Below w.heap.size w w' := by
  obtain ⟨g, cap, cur, rfl, h1, h2, h3, h4, h5, h6⟩ := own_row hL hl0
  have hlt : g < w.heap.size := h4.lt
  refine callsIn_wide.1 (last_wide l hw l.length rfl hl g cap (fun j => if h : j < l.length then ⟨l[j], hw _ (List.getElem_mem h)⟩ else ⟨zeroSg, by decide, by decide, by decide⟩) (fun j s hs => ?_) w hlt (fun j hj i hi => ?_))
  · obtain ⟨h, e⟩ := List.getElem?_eq_some_iff.1 hs
    simp only [dif_pos h]; exact e
  · simp only [dif_pos hj]
    have hat := segL_at l j l[j] (List.getElem?_eq_getElem hj) i hi
    rw [Nat.zero_add, h4.cell, ← hat, ← h6, List.getElem?_take, if_pos (by omega), Array.getElem?_toList]
end Go.Proofs.YtaaiockiojejeaaGreatDoor
