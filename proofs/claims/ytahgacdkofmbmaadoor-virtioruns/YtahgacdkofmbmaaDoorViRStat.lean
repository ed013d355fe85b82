/-
  What the document's status answers.
-/
import Derived.Test.YtahgacdkofmbmaaDoorViRCheck
import Derived.Test.YtahgacdkofmbmaaDoorPaAt
import Derived.Great.Walk
namespace Go.Proofs.YtahgacdkofmbmaaDoor
open Go.RowKit
set_option linter.unusedVariables false

attribute [local go_sem] V.at0 V.at1 V.at2 V.at3 V.at4 V.at5 V.at6 V.at7 V.at8 V.at9 V.at10 V.at11 V.at12 V.at13 V.at14 V.at15 V.at16 V.at17 V.at18 V.at19 V.at20 Qu.at0 Qu.at1 Qu.at2 Qu.at3 Qu.at4 Qu.at5 Qu.at6
def lI : Array Value := #[.int .i64 0, .int .i64 1, .int .i64 7, .int .i64 3, .int .i64 2]
theorem lI_0 : lI[0]? = some (.int .i64 0) := rfl
theorem lI_1 : lI[1]? = some (.int .i64 1) := rfl
theorem lI_2 : lI[2]? = some (.int .i64 7) := rfl
theorem lI_3 : lI[3]? = some (.int .i64 3) := rfl
theorem lI_4 : lI[4]? = some (.int .i64 2) := rfl
attribute [local go_sem] lI_0 lI_1 lI_2 lI_3 lI_4
def st1 (s : V) (v : Nat) : Nat := if v.testBit 0 = true then s.st ||| 1 else s.st
def st2 (s : V) (v : Nat) : Nat := if v.testBit 1 = true then st1 s v ||| 2 else st1 s v
def st3 (s : V) (v : Nat) : Nat := if v.testBit 7 = true then st2 s v ||| 128 else st2 s v
def st4 (s : V) (v : Nat) : Nat := if (v.testBit 3 && setl s) = true then st3 s v ||| 8 else st3 s v
def st5 (s : V) (v : Nat) : Nat := if (v.testBit 2 && (st4 s v).testBit 3) = true then st4 s v ||| 4 else st4 s v
def stK (s : V) (v i : Nat) : Nat := if i = 0 then s.st else if i = 1 then st1 s v else if i = 2 then st2 s v else if i = 3 then st3 s v else if i = 4 then st4 s v else st5 s v
theorem stK_lt {s : V} (ok : s.Ok) (v i : Nat) : stK s v i < 4294967296 := by
  have h0 := ok.st
  have h1 : st1 s v < 4294967296 := by unfold st1; split; (exact or_lt32 h0 (by decide)); exact h0
  have h2 : st2 s v < 4294967296 := by unfold st2; split; (exact or_lt32 h1 (by decide)); exact h1
  have h3 : st3 s v < 4294967296 := by unfold st3; split; (exact or_lt32 h2 (by decide)); exact h2
  have h4 : st4 s v < 4294967296 := by unfold st4; split; (exact or_lt32 h3 (by decide)); exact h3
  have h5 : st5 s v < 4294967296 := by unfold st5; split; (exact or_lt32 h4 (by decide)); exact h4
  unfold stK
  repeat' split
  all_goals assumption
def mP (x : Nat) (se t3 : Bool) : Nat := if (t3 || (if se = true then x &&& 143 else (x &&& 143) &&& 4294967287).testBit 3) = true then (if se = true then x &&& 143 else (x &&& 143) &&& 4294967287) else (if se = true then x &&& 143 else (x &&& 143) &&& 4294967287) &&& 4294967291
def mD4 (x : Nat) (se : Bool) : Nat := (((if x.testBit 0 = true then 1 else 0) ||| (if x.testBit 1 = true then 2 else 0)) ||| (if x.testBit 7 = true then 128 else 0)) ||| (if (x.testBit 3 && se) = true then 8 else 0)
def mD (x : Nat) (se t3 : Bool) : Nat := mD4 x se ||| (if (x.testBit 2 && (t3 || (mD4 x se).testBit 3)) = true then 4 else 0)
theorem mP_mD : ∀ x, x < 256 → ∀ se t3, mP x se t3 = mD x se t3 := by decide +kernel
theorem or_if (x k : Nat) (c : Bool) : (if c = true then x ||| k else x) = x ||| (if c = true then k else 0) := by
  cases c <;> simp
theorem st4_eq (s : V) (v : Nat) : st4 s v = s.st ||| mD4 (v % 256) (setl s) := by
  unfold st4 st3 st2 st1 mD4
  rw [or_if, or_if, or_if, or_if, tb_low v 0 (by decide), tb_low v 1 (by decide), tb_low v 7 (by decide), tb_low v 3 (by decide), Nat.or_assoc, Nat.or_assoc, Nat.or_assoc, ← Nat.or_assoc, ← Nat.or_assoc, ← Nat.or_assoc]
  simp only [Nat.or_assoc]
theorem st5_eq (s : V) (v : Nat) : st5 s v = s.st ||| statM s v := by
  have e1 : statB s v = if setl s = true then (v % 256) &&& 143 else ((v % 256) &&& 143) &&& 4294967287 := by
    unfold statB; rw [and_low v 143 (by decide)]
  have e2 : statM s v = mP (v % 256) (setl s) (s.st.testBit 3) := by
    unfold statM mP
    rw [Nat.testBit_or, e1]
  rw [e2, mP_mD _ (Nat.mod_lt _ (by decide))]
  unfold st5 mD
  rw [or_if, st4_eq, Nat.testBit_or, tb_low v 2 (by decide), Nat.or_assoc]
theorem s_ldc {P : Program} {dst : Option Tmp} {ty t : TypeId} {pos : String} {after : Array Edge} {a : Act} {w : World} {Q : Exit → Act → World → Prop} {K : Act → World → Prop} {x : Operand} (b j : Nat) (hx : a.eval x = .pointer (some ⟨b, j, none⟩)) (cs : Array Value) (v : Value) (t' : TypeId) (hr : RowAt w b cs t') (hv : cs[j]? = some v) (d : TypeDesc) (hu : P.underlying t = some d) (hd : d.isRow = false)
    (k : K (a.put dst v) w) : Oper.wp P ⟨dst, .load t x, ty, pos, after, none⟩ a w K Q := by
  have hcell : w.cell? ⟨b, j, none⟩ = some v := (hr.cell j).trans hv
  have hrun : (loadVar t ⟨b, j, none⟩).run P w = .ok v w := by
    have hagg : (isAgg t).run P w = .ok false w := by
      unfold isAgg
      rw [Sem.run_bind, run_underlying hu w]
      cases d <;> simp_all
    simp [loadVar, Sem.run_bind, hagg, hcell]
  unfold Oper.wp execOp
  simp only [hx, Instr.loadAt, Instr.sureAddr, Sem.run_bind, Sem.run_pure, Result.andThen_ok, hrun]
  exact k
theorem s_stc {P : Program} {dst : Option Tmp} {ty t : TypeId} {pos : String} {after : Array Edge} {a : Act} {w : World} {Q : Exit → Act → World → Prop} {K : Act → World → Prop} {x y : Operand} (b j : Nat) (hx : a.eval x = .pointer (some ⟨b, j, none⟩)) (v : Value) (hy : a.eval y = v) (old cs : Array Value) (t' : TypeId) (hr : RowAt w b old t') (hi : (P.info? t).map (·.size) = some 1) (hs : j < old.size) (h1 : v.oneCell' = true) (hp : old.setIfInBounds j v = cs)
    (k : ∀ W, RowAt W b cs t' → Only b w W → K (a.put dst undef) W) : Oper.wp P ⟨dst, .store t x y, ty, pos, after, none⟩ a w K Q := by
  subst hp
  have hth := hr.thereAt j 1 (by omega)
  have := run_storeCells_cells (P := P) b j [v] 0 w (fun i hi => by simpa using (hth i (by simpa using hi)).1) (fun i hi => by simpa using (hth i (by simpa using hi)).2) (fun u hu => by simp at hu; subst hu; exact h1)
  have hc : v.cells = #[v] := by cases v <;> first | rfl | cases h1
  have hrun : (storeVar t ⟨b, j, none⟩ v).run P w = .ok () (w.setCells b j [v]) := by
    cases hq : P.info? t with
    | none => simp [hq] at hi
    | some i =>
      have hs : i.size = 1 := by simp [hq] at hi; omega
      simp only [Nat.add_zero] at this
      simp [storeVar, sizeOf, typeInfo, hq, hc, hs, this]
  unfold Oper.wp execOp
  simp only [hx, hy, Instr.storeAt, Instr.sureAddr, Sem.run_bind, Sem.run_pure, Result.andThen_ok, hrun]
  exact k _ (hr.put j v) (only_setCells b j [v] w)
variable {ops : Array Oper} {rest : List Oper} {dst : Option Tmp} {ty t2 : TypeId} {after : Array Edge} {a : Act} {x y : Operand} {gd : Option (Nat × Bool)} {pos : String} {S : World → Prop} {w : World} {Q : Exit → Act → World → Prop} {K : Act → World → Prop}
theorem bs_i (N : Nat) (hN : w.heap.size = N)
    (k : ∀ W, RowAt W N lI 3 → Below N w W → Hid (W.heap.size = N + 1) → wpList Tryd.prog ops Q rest (a.put dst (.slice (some ⟨N, 0, none⟩) 5 5)) W) :
    wpList Tryd.prog ops Q (⟨dst, .buildSlice 92 5 #[(0, .const (.int .i64 0)), (1, .const (.int .i64 1)), (2, .const (.int .i64 7)), (3, .const (.int .i64 3)), (4, .const (.int .i64 2))], ty, pos, after, none⟩ :: rest) a w :=
  op_bsn 92 3 5 Tryd.underlying92 lI N hN [(0, .int .i64 0), (1, .int .i64 1), (2, .int .i64 7), (3, .int .i64 3), (4, .int .i64 2)] (by simp [Act.eval]) ⟨by kernel_rfl⟩ k
set_option maxHeartbeats 1000000 in
theorem rstat_0 (s : V) (ok : s.Ok) (v : Nat) (h : v = 0) (w : World) :
    Calls Tryd.prog 37 #[.agg s.cells, .int .u32 (v : Nat)] w fun e w' => e = .returned (.agg (statV s v).cells) ∧ Below w.heap.size w w' := by
  have HV : statV s v = zeroV := by unfold statV; rw [if_pos h]
  rw [HV]; clear HV
  subst h
  rw [show ((0 : Nat) : Int) = 0 from rfl]
  go_enter Tryd.func37, Tryd.ntmps37
  go_wp2_with (first | ((with_reducible refine bx_vr w.heap.size s ?_ ?_ ?_); exact rfl; exact rfl; intro W hr hb hz; have fx := hr.cell) | ((with_reducible refine al_vr (w.heap.size + 1) ?_ ?_); exact hz.out; intro W hq hb' hz'; replace hr := hr.bl (hz.out ▸ hb'); replace hb := hb.trans (hb'.mono (by omega)); replace hz := hz'; replace fx := hr.cell) | ((with_reducible refine st_vr (w.heap.size + 1) _ zeroV hq ?_ ?_ ?_); exact rfl; exact rfl; intro W hnew ho; replace hr := hr.only ho (by omega); replace hq := hnew; replace hb := ho.bel _ _ (by omega) hb))
  refine bodyPost_ret (results_cell_row Tryd.results37 _ _ (w.heap.size + 1) _ _ _ _ rfl hq Tryd.underlying31 rfl size_vr) rfl ?_
  exact ⟨rfl, hb⟩

set_option maxRecDepth 20000 in
set_option maxHeartbeats 4000000 in
theorem rstat_n (s : V) (ok : s.Ok) (v : Nat) (hv : v < 4294967296) (h : v ≠ 0) (w : World) :
    Calls Tryd.prog 37 #[.agg s.cells, .int .u32 (v : Nat)] w fun e w' => e = .returned (.agg (statV s v).cells) ∧ Below w.heap.size w w' := by
  have HV : statV s v = s.stw (st5 s v) := by unfold statV; rw [if_neg h, st5_eq]
  rw [HV]; clear HV
  have l0 : ((v : Int) == 0) = false := by simp; omega
  have m0 : (v == 0) = false := by simp; omega
  clear h
  go_enter Tryd.func37, Tryd.ntmps37
  go_wp2_with (first | ((with_reducible refine bx_vr w.heap.size s ?_ ?_ ?_); exact rfl; exact rfl; intro W hr hb hz; have fx := hr.cell) | ((with_reducible refine al_vr (w.heap.size + 1) ?_ ?_); exact hz.out; intro W hq hb' hz'; replace hr := hr.bl (hz.out ▸ hb'); replace hb := hb.trans (hb'.mono (by omega)); replace hz := hz'; replace fx := hr.cell) | ((with_reducible refine bs_i (w.heap.size + 2) ?_ ?_); exact hz.out; intro W hl hb' hz'; replace hr := hr.bl (hz.out ▸ hb'); replace hq := hq.bl (hz.out ▸ hb'); replace hb := hb.trans (hb'.mono (by omega)); clear fx))
  go_loopw [6] (fun iv wr => ∃ i : Nat, i ≤ 5 ∧ iv = .int .i64 (i : Nat) ∧ RowAt wr w.heap.size (s.stw (stK s v i)).cells 31 ∧ RowAt wr (w.heap.size + 1) zeroV.cells 31 ∧ RowAt wr (w.heap.size + 2) lI 3 ∧ Below w.heap.size w wr) (fun iv _ => 5 - (intOf iv).toNat)
  case atStart => exact ⟨0, by omega, rfl, hr, hq, hl, hb⟩
  case round =>
    clear hr hq hl hb hz
    obtain ⟨i, hi, rfl, hr, hq, hl, hb⟩ := hrel
    have hi5 : i = 0 ∨ i = 1 ∨ i = 2 ∨ i = 3 ∨ i = 4 ∨ i = 5 := by omega
    rcases hi5 with rfl | rfl | rfl | rfl | rfl | rfl
    · have HX := hide (stK_lt ok v 0)
      obtain ⟨X, hX⟩ : ∃ x, stK s v 0 = x := ⟨_, rfl⟩
      rw [hX] at hr HX
      have HS := hide (fun w => rset_0 X HX.out w)
      have H := hide (fun w => rhas_0 v hv w)
      have fx := hr.cell
      have fl := hl.cell
      cases hb0 : v.testBit 0 with
      | false =>
        have HN : Hid (stK s v 1 = X) := hide (by show st1 s v = _; unfold st1; rw [hb0, if_neg (by decide)]; exact hX)
        rw [hb0] at H
        clear hX
        go_wp2_with (first | (go_at_call 30; (with_reducible refine (H.out _).mono ?_); rintro e W ⟨rfl, rfl⟩))
        go_roundw
        case rel => exact ⟨1, by omega, by go_num, by rw [HN.out]; exact hr, hq, hl, hb⟩
        case measure => decide
      | true =>
        have HN : Hid (stK s v 1 = X ||| 1) := hide (by show st1 s v = _; unfold st1; rw [hb0, if_pos rfl]; exact congrArg (fun z => z ||| 1) hX)
        rw [hb0] at H
        clear hX
        go_wp2_with (first | (go_at_call 30; (with_reducible refine (H.out _).mono ?_); rintro e W ⟨rfl, rfl⟩))
        refine wp_region_held_drew (S := (fun V => RowAt V (w.heap.size + 1) zeroV.cells 31 ∧ RowAt V (w.heap.size + 2) lI 3 ∧ Below w.heap.size w V)) (by kernel_rfl) ?_ (fun hHeld => ?_)
        · exact ⟨hq.dr, hl.dr, hb.drew⟩
        replace hr := hr.dr
        generalize World.drew _ = V at hHeld hr ⊢
        clear hq hl hb
        refine wpAnyH_take (i := 0) (oi := ?oi1) (v := .pointer (some ⟨w.heap.size, 0, none⟩)) ?hi1 (by kernel_rfl) (by kernel_rfl) (by kernel_rfl) ?hQ1 ?hy1 (by assumption) ?rest1
        case hi1 => (simp only [List.getElem?_toArray, List.getElem?_cons_zero]; rfl)
        case hQ1 => exact fun _ _ _ h => h
        case hy1 => exact Or.inl ⟨by rfl, by (intro w hSw; (try dsimp only at hSw); go_simp )⟩
        simp only [Act.put, List.setIfInBounds_toArray, List.set_cons_zero, List.set_cons_succ]
        refine wpAnyH_take (i := 2) (oi := ?oi2) (v := .slice (some ⟨w.heap.size + 2, 0, none⟩) 5 5) ?hi2 (by kernel_rfl) (by kernel_rfl) (by kernel_rfl) ?hQ2 ?hy2 (by assumption) ?rest2
        case hi2 => (simp only [List.getElem?_toArray, List.getElem?_cons_zero, List.getElem?_cons_succ]; rfl)
        case hQ2 => exact fun _ _ _ h => h
        case hy2 => exact Or.inl ⟨by rfl, by (intro w hSw; (try dsimp only at hSw); go_simp )⟩
        simp only [Act.put, List.setIfInBounds_toArray, List.set_cons_zero, List.set_cons_succ]
        refine wpAnyH_take (i := 3) (oi := ?oi3) (v := .int .i64 0) ?hi3 (by kernel_rfl) (by kernel_rfl) (by kernel_rfl) ?hQ3 ?hy3 (by assumption) ?rest3
        case hi3 => (simp only [List.getElem?_toArray, List.getElem?_cons_zero, List.getElem?_cons_succ]; rfl)
        case hQ3 => exact fun _ _ _ h => h
        case hy3 => exact Or.inl ⟨by rfl, by (intro w hSw; (try dsimp only at hSw); go_simp )⟩
        simp only [Act.put, List.setIfInBounds_toArray, List.set_cons_zero, List.set_cons_succ]
        refine wpAnyH_take (i := 4) (oi := ?oi4) (v := .pointer (some ⟨w.heap.size + 2, 0, none⟩)) ?hi4 (by kernel_rfl) (by kernel_rfl) (by kernel_rfl) ?hQ4 ?hy4 (by assumption) ?rest4
        case hi4 => (simp only [List.getElem?_toArray, List.getElem?_cons_zero, List.getElem?_cons_succ]; rfl)
        case hQ4 => exact fun _ _ _ h => h
        case hy4 => exact Or.inl ⟨by rfl, by (intro w hSw; (try dsimp only at hSw); go_simp )⟩
        simp only [Act.put, List.setIfInBounds_toArray, List.set_cons_zero, List.set_cons_succ]
        refine wpAnyH_take (i := 5) (oi := ?oi5) (v := .int .i64 0) ?hi5 (by kernel_rfl) (by kernel_rfl) (by kernel_rfl) ?hQ5 ?hy5 (by assumption) ?rest5
        case hi5 => (simp only [List.getElem?_toArray, List.getElem?_cons_zero, List.getElem?_cons_succ]; rfl)
        case hQ5 => exact fun _ _ _ h => h
        case hy5 => exact y_cell (w.heap.size + 2) 0 _ (fun V hV => (hV.2.1.cell _).trans lI_0) _ Tryd.underlying3 rfl rfl
        simp only [Act.put, List.setIfInBounds_toArray, List.set_cons_zero, List.set_cons_succ]
        refine wpAnyH_ready (rs := [1]) (by kernel_rfl) (by simp) ?_
        refine AllReadyH.cons (o := ?oi6) ?hi6 (fun K hK => ?_) AllReadyH.nil
        case hi6 => (simp only [List.getElem?_toArray, List.getElem?_cons_zero, List.getElem?_cons_succ]; rfl)
        rw [if_pos (by rfl)]
        (with_reducible refine s_ldc w.heap.size 0 ?_ _ (.int .u32 (X : Nat)) _ hr ?_ _ Tryd.underlying22 ?_ ?_)
        · exact rfl
        · exact rfl
        · exact rfl
        have hH2 := hide hHeld
        clear hHeld
        refine hK.out _ _ ?_ (fun hHeld => ?_)
        · exact hH2.out
        clear hK K
        clear hH2
        refine wpAnyH_ready (rs := [6]) (by kernel_rfl) (by simp) ?_
        refine AllReadyH.cons (o := ?oi7) ?hi7 (fun K hK => ?_) AllReadyH.nil
        case hi7 => (simp only [List.getElem?_toArray, List.getElem?_cons_zero, List.getElem?_cons_succ]; rfl)
        go_simp
        (with_reducible refine (HS.out _).mono ?_)
        rintro e V ⟨rfl, hbc⟩
        have hH2 := hide (And.intro (hHeld.1.bl hbc) (And.intro (hHeld.2.1.bl hbc) (below_bl rfl hHeld.2.2 hbc)))
        replace hr := hr.bl hbc
        clear hHeld hbc
        go_simp
        refine hK.out _ _ ?_ (fun hHeld => ?_)
        · exact hH2.out
        clear hK K
        clear hH2
        refine wpAnyH_take (i := 7) (oi := ?oi8) (v := .pointer (some ⟨w.heap.size, 0, none⟩)) ?hi8 (by kernel_rfl) (by kernel_rfl) (by kernel_rfl) ?hQ8 ?hy8 (by assumption) ?rest8
        case hi8 => (simp only [List.getElem?_toArray, List.getElem?_cons_zero, List.getElem?_cons_succ]; rfl)
        case hQ8 => exact fun _ _ _ h => h
        case hy8 => exact Or.inl ⟨by rfl, by (intro w hSw; (try dsimp only at hSw); go_simp )⟩
        simp only [Act.put, List.setIfInBounds_toArray, List.set_cons_zero, List.set_cons_succ]
        refine wpAnyH_ready (rs := [8]) (by kernel_rfl) (by simp) ?_
        refine AllReadyH.cons (o := ?oi9) ?hi9 (fun K hK => ?_) AllReadyH.nil
        case hi9 => (simp only [List.getElem?_toArray, List.getElem?_cons_zero, List.getElem?_cons_succ]; rfl)
        rw [if_pos (by rfl)]
        (with_reducible refine s_stc w.heap.size 0 ?_ (.int .u32 ((X ||| 1 : Nat) : Int)) ?_ _ (s.stw (X ||| 1)).cells _ hr ?_ ?_ ?_ ?_ ?_)
        · exact rfl
        · exact rfl
        · exact size_u32i
        · exact (show 0 < 21 by decide)
        · exact rfl
        · exact rfl
        intro V hnew ho
        have hH2 := hide (And.intro (hHeld.1.only ho (by omega)) (And.intro (hHeld.2.1.only ho (by omega)) (ho.bel _ _ (by omega) hHeld.2.2)))
        replace hr := hnew
        clear hHeld
        refine hK.out _ _ ?_ (fun hHeld => ?_)
        · exact hH2.out
        clear hK K
        clear hH2
        refine wpAnyH_done (by kernel_rfl) ?_ _
        have hq := hHeld.1
        have hl := hHeld.2.1
        have hb := hHeld.2.2
        clear hHeld
        go_wp2
        go_roundw
        case rel => exact ⟨1, by omega, by go_num, by rw [HN.out]; exact hr, hq, hl, hb⟩
        case measure => decide
    · have HX := hide (stK_lt ok v 1)
      obtain ⟨X, hX⟩ : ∃ x, stK s v 1 = x := ⟨_, rfl⟩
      rw [hX] at hr HX
      have HS := hide (fun w => rset_1 X HX.out w)
      have H := hide (fun w => rhas_1 v hv w)
      have fx := hr.cell
      have fl := hl.cell
      cases hb0 : v.testBit 1 with
      | false =>
        have HN : Hid (stK s v 2 = X) := hide (by show st2 s v = _; unfold st2; rw [hb0, if_neg (by decide)]; exact hX)
        rw [hb0] at H
        clear hX
        go_wp2_with (first | (go_at_call 30; (with_reducible refine (H.out _).mono ?_); rintro e W ⟨rfl, rfl⟩))
        go_roundw
        case rel => exact ⟨2, by omega, by go_num, by rw [HN.out]; exact hr, hq, hl, hb⟩
        case measure => decide
      | true =>
        have HN : Hid (stK s v 2 = X ||| 2) := hide (by show st2 s v = _; unfold st2; rw [hb0, if_pos rfl]; exact congrArg (fun z => z ||| 2) hX)
        rw [hb0] at H
        clear hX
        go_wp2_with (first | (go_at_call 30; (with_reducible refine (H.out _).mono ?_); rintro e W ⟨rfl, rfl⟩))
        refine wp_region_held_drew (S := (fun V => RowAt V (w.heap.size + 1) zeroV.cells 31 ∧ RowAt V (w.heap.size + 2) lI 3 ∧ Below w.heap.size w V)) (by kernel_rfl) ?_ (fun hHeld => ?_)
        · exact ⟨hq.dr, hl.dr, hb.drew⟩
        replace hr := hr.dr
        generalize World.drew _ = V at hHeld hr ⊢
        clear hq hl hb
        refine wpAnyH_take (i := 0) (oi := ?oi10) (v := .pointer (some ⟨w.heap.size, 0, none⟩)) ?hi10 (by kernel_rfl) (by kernel_rfl) (by kernel_rfl) ?hQ10 ?hy10 (by assumption) ?rest10
        case hi10 => (simp only [List.getElem?_toArray, List.getElem?_cons_zero]; rfl)
        case hQ10 => exact fun _ _ _ h => h
        case hy10 => exact Or.inl ⟨by rfl, by (intro w hSw; (try dsimp only at hSw); go_simp )⟩
        simp only [Act.put, List.setIfInBounds_toArray, List.set_cons_zero, List.set_cons_succ]
        refine wpAnyH_take (i := 2) (oi := ?oi11) (v := .slice (some ⟨w.heap.size + 2, 0, none⟩) 5 5) ?hi11 (by kernel_rfl) (by kernel_rfl) (by kernel_rfl) ?hQ11 ?hy11 (by assumption) ?rest11
        case hi11 => (simp only [List.getElem?_toArray, List.getElem?_cons_zero, List.getElem?_cons_succ]; rfl)
        case hQ11 => exact fun _ _ _ h => h
        case hy11 => exact Or.inl ⟨by rfl, by (intro w hSw; (try dsimp only at hSw); go_simp )⟩
        simp only [Act.put, List.setIfInBounds_toArray, List.set_cons_zero, List.set_cons_succ]
        refine wpAnyH_take (i := 3) (oi := ?oi12) (v := .int .i64 1) ?hi12 (by kernel_rfl) (by kernel_rfl) (by kernel_rfl) ?hQ12 ?hy12 (by assumption) ?rest12
        case hi12 => (simp only [List.getElem?_toArray, List.getElem?_cons_zero, List.getElem?_cons_succ]; rfl)
        case hQ12 => exact fun _ _ _ h => h
        case hy12 => exact Or.inl ⟨by rfl, by (intro w hSw; (try dsimp only at hSw); go_simp )⟩
        simp only [Act.put, List.setIfInBounds_toArray, List.set_cons_zero, List.set_cons_succ]
        refine wpAnyH_take (i := 4) (oi := ?oi13) (v := .pointer (some ⟨w.heap.size + 2, 1, none⟩)) ?hi13 (by kernel_rfl) (by kernel_rfl) (by kernel_rfl) ?hQ13 ?hy13 (by assumption) ?rest13
        case hi13 => (simp only [List.getElem?_toArray, List.getElem?_cons_zero, List.getElem?_cons_succ]; rfl)
        case hQ13 => exact fun _ _ _ h => h
        case hy13 => exact Or.inl ⟨by rfl, by (intro w hSw; (try dsimp only at hSw); go_simp )⟩
        simp only [Act.put, List.setIfInBounds_toArray, List.set_cons_zero, List.set_cons_succ]
        refine wpAnyH_take (i := 5) (oi := ?oi14) (v := .int .i64 1) ?hi14 (by kernel_rfl) (by kernel_rfl) (by kernel_rfl) ?hQ14 ?hy14 (by assumption) ?rest14
        case hi14 => (simp only [List.getElem?_toArray, List.getElem?_cons_zero, List.getElem?_cons_succ]; rfl)
        case hQ14 => exact fun _ _ _ h => h
        case hy14 => exact y_cell (w.heap.size + 2) 1 _ (fun V hV => (hV.2.1.cell _).trans lI_1) _ Tryd.underlying3 rfl rfl
        simp only [Act.put, List.setIfInBounds_toArray, List.set_cons_zero, List.set_cons_succ]
        refine wpAnyH_ready (rs := [1]) (by kernel_rfl) (by simp) ?_
        refine AllReadyH.cons (o := ?oi15) ?hi15 (fun K hK => ?_) AllReadyH.nil
        case hi15 => (simp only [List.getElem?_toArray, List.getElem?_cons_zero, List.getElem?_cons_succ]; rfl)
        rw [if_pos (by rfl)]
        (with_reducible refine s_ldc w.heap.size 0 ?_ _ (.int .u32 (X : Nat)) _ hr ?_ _ Tryd.underlying22 ?_ ?_)
        · exact rfl
        · exact rfl
        · exact rfl
        have hH2 := hide hHeld
        clear hHeld
        refine hK.out _ _ ?_ (fun hHeld => ?_)
        · exact hH2.out
        clear hK K
        clear hH2
        refine wpAnyH_ready (rs := [6]) (by kernel_rfl) (by simp) ?_
        refine AllReadyH.cons (o := ?oi16) ?hi16 (fun K hK => ?_) AllReadyH.nil
        case hi16 => (simp only [List.getElem?_toArray, List.getElem?_cons_zero, List.getElem?_cons_succ]; rfl)
        go_simp
        (with_reducible refine (HS.out _).mono ?_)
        rintro e V ⟨rfl, hbc⟩
        have hH2 := hide (And.intro (hHeld.1.bl hbc) (And.intro (hHeld.2.1.bl hbc) (below_bl rfl hHeld.2.2 hbc)))
        replace hr := hr.bl hbc
        clear hHeld hbc
        go_simp
        refine hK.out _ _ ?_ (fun hHeld => ?_)
        · exact hH2.out
        clear hK K
        clear hH2
        refine wpAnyH_take (i := 7) (oi := ?oi17) (v := .pointer (some ⟨w.heap.size, 0, none⟩)) ?hi17 (by kernel_rfl) (by kernel_rfl) (by kernel_rfl) ?hQ17 ?hy17 (by assumption) ?rest17
        case hi17 => (simp only [List.getElem?_toArray, List.getElem?_cons_zero, List.getElem?_cons_succ]; rfl)
        case hQ17 => exact fun _ _ _ h => h
        case hy17 => exact Or.inl ⟨by rfl, by (intro w hSw; (try dsimp only at hSw); go_simp )⟩
        simp only [Act.put, List.setIfInBounds_toArray, List.set_cons_zero, List.set_cons_succ]
        refine wpAnyH_ready (rs := [8]) (by kernel_rfl) (by simp) ?_
        refine AllReadyH.cons (o := ?oi18) ?hi18 (fun K hK => ?_) AllReadyH.nil
        case hi18 => (simp only [List.getElem?_toArray, List.getElem?_cons_zero, List.getElem?_cons_succ]; rfl)
        rw [if_pos (by rfl)]
        (with_reducible refine s_stc w.heap.size 0 ?_ (.int .u32 ((X ||| 2 : Nat) : Int)) ?_ _ (s.stw (X ||| 2)).cells _ hr ?_ ?_ ?_ ?_ ?_)
        · exact rfl
        · exact rfl
        · exact size_u32i
        · exact (show 0 < 21 by decide)
        · exact rfl
        · exact rfl
        intro V hnew ho
        have hH2 := hide (And.intro (hHeld.1.only ho (by omega)) (And.intro (hHeld.2.1.only ho (by omega)) (ho.bel _ _ (by omega) hHeld.2.2)))
        replace hr := hnew
        clear hHeld
        refine hK.out _ _ ?_ (fun hHeld => ?_)
        · exact hH2.out
        clear hK K
        clear hH2
        refine wpAnyH_done (by kernel_rfl) ?_ _
        have hq := hHeld.1
        have hl := hHeld.2.1
        have hb := hHeld.2.2
        clear hHeld
        go_wp2
        go_roundw
        case rel => exact ⟨2, by omega, by go_num, by rw [HN.out]; exact hr, hq, hl, hb⟩
        case measure => decide
    · have HX := hide (stK_lt ok v 2)
      obtain ⟨X, hX⟩ : ∃ x, stK s v 2 = x := ⟨_, rfl⟩
      rw [hX] at hr HX
      have HS := hide (fun w => rset_7 X HX.out w)
      have H := hide (fun w => rhas_7 v hv w)
      have fx := hr.cell
      have fl := hl.cell
      cases hb0 : v.testBit 7 with
      | false =>
        have HN : Hid (stK s v 3 = X) := hide (by show st3 s v = _; unfold st3; rw [hb0, if_neg (by decide)]; exact hX)
        rw [hb0] at H
        clear hX
        go_wp2_with (first | (go_at_call 30; (with_reducible refine (H.out _).mono ?_); rintro e W ⟨rfl, rfl⟩))
        go_roundw
        case rel => exact ⟨3, by omega, by go_num, by rw [HN.out]; exact hr, hq, hl, hb⟩
        case measure => decide
      | true =>
        have HN : Hid (stK s v 3 = X ||| 128) := hide (by show st3 s v = _; unfold st3; rw [hb0, if_pos rfl]; exact congrArg (fun z => z ||| 128) hX)
        rw [hb0] at H
        clear hX
        go_wp2_with (first | (go_at_call 30; (with_reducible refine (H.out _).mono ?_); rintro e W ⟨rfl, rfl⟩))
        refine wp_region_held_drew (S := (fun V => RowAt V (w.heap.size + 1) zeroV.cells 31 ∧ RowAt V (w.heap.size + 2) lI 3 ∧ Below w.heap.size w V)) (by kernel_rfl) ?_ (fun hHeld => ?_)
        · exact ⟨hq.dr, hl.dr, hb.drew⟩
        replace hr := hr.dr
        generalize World.drew _ = V at hHeld hr ⊢
        clear hq hl hb
        refine wpAnyH_take (i := 0) (oi := ?oi19) (v := .pointer (some ⟨w.heap.size, 0, none⟩)) ?hi19 (by kernel_rfl) (by kernel_rfl) (by kernel_rfl) ?hQ19 ?hy19 (by assumption) ?rest19
        case hi19 => (simp only [List.getElem?_toArray, List.getElem?_cons_zero]; rfl)
        case hQ19 => exact fun _ _ _ h => h
        case hy19 => exact Or.inl ⟨by rfl, by (intro w hSw; (try dsimp only at hSw); go_simp )⟩
        simp only [Act.put, List.setIfInBounds_toArray, List.set_cons_zero, List.set_cons_succ]
        refine wpAnyH_take (i := 2) (oi := ?oi20) (v := .slice (some ⟨w.heap.size + 2, 0, none⟩) 5 5) ?hi20 (by kernel_rfl) (by kernel_rfl) (by kernel_rfl) ?hQ20 ?hy20 (by assumption) ?rest20
        case hi20 => (simp only [List.getElem?_toArray, List.getElem?_cons_zero, List.getElem?_cons_succ]; rfl)
        case hQ20 => exact fun _ _ _ h => h
        case hy20 => exact Or.inl ⟨by rfl, by (intro w hSw; (try dsimp only at hSw); go_simp )⟩
        simp only [Act.put, List.setIfInBounds_toArray, List.set_cons_zero, List.set_cons_succ]
        refine wpAnyH_take (i := 3) (oi := ?oi21) (v := .int .i64 2) ?hi21 (by kernel_rfl) (by kernel_rfl) (by kernel_rfl) ?hQ21 ?hy21 (by assumption) ?rest21
        case hi21 => (simp only [List.getElem?_toArray, List.getElem?_cons_zero, List.getElem?_cons_succ]; rfl)
        case hQ21 => exact fun _ _ _ h => h
        case hy21 => exact Or.inl ⟨by rfl, by (intro w hSw; (try dsimp only at hSw); go_simp )⟩
        simp only [Act.put, List.setIfInBounds_toArray, List.set_cons_zero, List.set_cons_succ]
        refine wpAnyH_take (i := 4) (oi := ?oi22) (v := .pointer (some ⟨w.heap.size + 2, 2, none⟩)) ?hi22 (by kernel_rfl) (by kernel_rfl) (by kernel_rfl) ?hQ22 ?hy22 (by assumption) ?rest22
        case hi22 => (simp only [List.getElem?_toArray, List.getElem?_cons_zero, List.getElem?_cons_succ]; rfl)
        case hQ22 => exact fun _ _ _ h => h
        case hy22 => exact Or.inl ⟨by rfl, by (intro w hSw; (try dsimp only at hSw); go_simp )⟩
        simp only [Act.put, List.setIfInBounds_toArray, List.set_cons_zero, List.set_cons_succ]
        refine wpAnyH_take (i := 5) (oi := ?oi23) (v := .int .i64 7) ?hi23 (by kernel_rfl) (by kernel_rfl) (by kernel_rfl) ?hQ23 ?hy23 (by assumption) ?rest23
        case hi23 => (simp only [List.getElem?_toArray, List.getElem?_cons_zero, List.getElem?_cons_succ]; rfl)
        case hQ23 => exact fun _ _ _ h => h
        case hy23 => exact y_cell (w.heap.size + 2) 2 _ (fun V hV => (hV.2.1.cell _).trans lI_2) _ Tryd.underlying3 rfl rfl
        simp only [Act.put, List.setIfInBounds_toArray, List.set_cons_zero, List.set_cons_succ]
        refine wpAnyH_ready (rs := [1]) (by kernel_rfl) (by simp) ?_
        refine AllReadyH.cons (o := ?oi24) ?hi24 (fun K hK => ?_) AllReadyH.nil
        case hi24 => (simp only [List.getElem?_toArray, List.getElem?_cons_zero, List.getElem?_cons_succ]; rfl)
        rw [if_pos (by rfl)]
        (with_reducible refine s_ldc w.heap.size 0 ?_ _ (.int .u32 (X : Nat)) _ hr ?_ _ Tryd.underlying22 ?_ ?_)
        · exact rfl
        · exact rfl
        · exact rfl
        have hH2 := hide hHeld
        clear hHeld
        refine hK.out _ _ ?_ (fun hHeld => ?_)
        · exact hH2.out
        clear hK K
        clear hH2
        refine wpAnyH_ready (rs := [6]) (by kernel_rfl) (by simp) ?_
        refine AllReadyH.cons (o := ?oi25) ?hi25 (fun K hK => ?_) AllReadyH.nil
        case hi25 => (simp only [List.getElem?_toArray, List.getElem?_cons_zero, List.getElem?_cons_succ]; rfl)
        go_simp
        (with_reducible refine (HS.out _).mono ?_)
        rintro e V ⟨rfl, hbc⟩
        have hH2 := hide (And.intro (hHeld.1.bl hbc) (And.intro (hHeld.2.1.bl hbc) (below_bl rfl hHeld.2.2 hbc)))
        replace hr := hr.bl hbc
        clear hHeld hbc
        go_simp
        refine hK.out _ _ ?_ (fun hHeld => ?_)
        · exact hH2.out
        clear hK K
        clear hH2
        refine wpAnyH_take (i := 7) (oi := ?oi26) (v := .pointer (some ⟨w.heap.size, 0, none⟩)) ?hi26 (by kernel_rfl) (by kernel_rfl) (by kernel_rfl) ?hQ26 ?hy26 (by assumption) ?rest26
        case hi26 => (simp only [List.getElem?_toArray, List.getElem?_cons_zero, List.getElem?_cons_succ]; rfl)
        case hQ26 => exact fun _ _ _ h => h
        case hy26 => exact Or.inl ⟨by rfl, by (intro w hSw; (try dsimp only at hSw); go_simp )⟩
        simp only [Act.put, List.setIfInBounds_toArray, List.set_cons_zero, List.set_cons_succ]
        refine wpAnyH_ready (rs := [8]) (by kernel_rfl) (by simp) ?_
        refine AllReadyH.cons (o := ?oi27) ?hi27 (fun K hK => ?_) AllReadyH.nil
        case hi27 => (simp only [List.getElem?_toArray, List.getElem?_cons_zero, List.getElem?_cons_succ]; rfl)
        rw [if_pos (by rfl)]
        (with_reducible refine s_stc w.heap.size 0 ?_ (.int .u32 ((X ||| 128 : Nat) : Int)) ?_ _ (s.stw (X ||| 128)).cells _ hr ?_ ?_ ?_ ?_ ?_)
        · exact rfl
        · exact rfl
        · exact size_u32i
        · exact (show 0 < 21 by decide)
        · exact rfl
        · exact rfl
        intro V hnew ho
        have hH2 := hide (And.intro (hHeld.1.only ho (by omega)) (And.intro (hHeld.2.1.only ho (by omega)) (ho.bel _ _ (by omega) hHeld.2.2)))
        replace hr := hnew
        clear hHeld
        refine hK.out _ _ ?_ (fun hHeld => ?_)
        · exact hH2.out
        clear hK K
        clear hH2
        refine wpAnyH_done (by kernel_rfl) ?_ _
        have hq := hHeld.1
        have hl := hHeld.2.1
        have hb := hHeld.2.2
        clear hHeld
        go_wp2
        go_roundw
        case rel => exact ⟨3, by omega, by go_num, by rw [HN.out]; exact hr, hq, hl, hb⟩
        case measure => decide
    · have HX := hide (stK_lt ok v 3)
      obtain ⟨X, hX⟩ : ∃ x, stK s v 3 = x := ⟨_, rfl⟩
      rw [hX] at hr HX
      have HS := hide (fun w => rset_3 X HX.out w)
      have H := hide (fun w => rhas_3 v hv w)
      have fx := hr.cell
      have fl := hl.cell
      cases hb0 : v.testBit 3 with
      | false =>
        have HN : Hid (stK s v 4 = X) := hide (by show st4 s v = _; unfold st4; rw [hb0, Bool.false_and, if_neg (by decide)]; exact hX)
        rw [hb0] at H
        clear hX
        go_wp2_with (first | (go_at_call 30; (with_reducible refine (H.out _).mono ?_); rintro e W ⟨rfl, rfl⟩))
        go_roundw
        case rel => exact ⟨4, by omega, by go_num, by rw [HN.out]; exact hr, hq, hl, hb⟩
        case measure => decide
      | true =>
        rw [hb0] at H
        by_cases hd0 : s.d0 = 0
        · have k0 : ((s.d0 : Int) != 0) = false := by simp [hd0]
          have k0' : (((s.stw X).d0 : Int) != 0) = false := k0
          by_cases hd1 : s.d1 = 1
          · have k1 : ((s.d1 : Int) != 1) = false := by rw [hd1]; rfl
            have k1' : (((s.stw X).d1 : Int) != 1) = false := k1
            have HN : Hid (stK s v 4 = X ||| 8) := hide (by show st4 s v = _; unfold st4; rw [hb0, show setl s = true by unfold setl; rw [decide_eq_true hd0, decide_eq_true hd1]; rfl, if_pos (by decide)]; exact congrArg (fun z => z ||| 8) hX)
            clear hX
            go_wp2_with (first | (go_at_call 30; (with_reducible refine (H.out _).mono ?_); rintro e W ⟨rfl, rfl⟩))
            refine wp_region_held_drew (S := (fun V => RowAt V (w.heap.size + 1) zeroV.cells 31 ∧ RowAt V (w.heap.size + 2) lI 3 ∧ Below w.heap.size w V)) (by kernel_rfl) ?_ (fun hHeld => ?_)
            · exact ⟨hq.dr, hl.dr, hb.drew⟩
            replace hr := hr.dr
            generalize World.drew _ = V at hHeld hr ⊢
            clear hq hl hb
            refine wpAnyH_take (i := 0) (oi := ?oi28) (v := .pointer (some ⟨w.heap.size, 0, none⟩)) ?hi28 (by kernel_rfl) (by kernel_rfl) (by kernel_rfl) ?hQ28 ?hy28 (by assumption) ?rest28
            case hi28 => (simp only [List.getElem?_toArray, List.getElem?_cons_zero]; rfl)
            case hQ28 => exact fun _ _ _ h => h
            case hy28 => exact Or.inl ⟨by rfl, by (intro w hSw; (try dsimp only at hSw); go_simp )⟩
            simp only [Act.put, List.setIfInBounds_toArray, List.set_cons_zero, List.set_cons_succ]
            refine wpAnyH_take (i := 2) (oi := ?oi29) (v := .slice (some ⟨w.heap.size + 2, 0, none⟩) 5 5) ?hi29 (by kernel_rfl) (by kernel_rfl) (by kernel_rfl) ?hQ29 ?hy29 (by assumption) ?rest29
            case hi29 => (simp only [List.getElem?_toArray, List.getElem?_cons_zero, List.getElem?_cons_succ]; rfl)
            case hQ29 => exact fun _ _ _ h => h
            case hy29 => exact Or.inl ⟨by rfl, by (intro w hSw; (try dsimp only at hSw); go_simp )⟩
            simp only [Act.put, List.setIfInBounds_toArray, List.set_cons_zero, List.set_cons_succ]
            refine wpAnyH_take (i := 3) (oi := ?oi30) (v := .int .i64 3) ?hi30 (by kernel_rfl) (by kernel_rfl) (by kernel_rfl) ?hQ30 ?hy30 (by assumption) ?rest30
            case hi30 => (simp only [List.getElem?_toArray, List.getElem?_cons_zero, List.getElem?_cons_succ]; rfl)
            case hQ30 => exact fun _ _ _ h => h
            case hy30 => exact Or.inl ⟨by rfl, by (intro w hSw; (try dsimp only at hSw); go_simp )⟩
            simp only [Act.put, List.setIfInBounds_toArray, List.set_cons_zero, List.set_cons_succ]
            refine wpAnyH_take (i := 4) (oi := ?oi31) (v := .pointer (some ⟨w.heap.size + 2, 3, none⟩)) ?hi31 (by kernel_rfl) (by kernel_rfl) (by kernel_rfl) ?hQ31 ?hy31 (by assumption) ?rest31
            case hi31 => (simp only [List.getElem?_toArray, List.getElem?_cons_zero, List.getElem?_cons_succ]; rfl)
            case hQ31 => exact fun _ _ _ h => h
            case hy31 => exact Or.inl ⟨by rfl, by (intro w hSw; (try dsimp only at hSw); go_simp )⟩
            simp only [Act.put, List.setIfInBounds_toArray, List.set_cons_zero, List.set_cons_succ]
            refine wpAnyH_take (i := 5) (oi := ?oi32) (v := .int .i64 3) ?hi32 (by kernel_rfl) (by kernel_rfl) (by kernel_rfl) ?hQ32 ?hy32 (by assumption) ?rest32
            case hi32 => (simp only [List.getElem?_toArray, List.getElem?_cons_zero, List.getElem?_cons_succ]; rfl)
            case hQ32 => exact fun _ _ _ h => h
            case hy32 => exact y_cell (w.heap.size + 2) 3 _ (fun V hV => (hV.2.1.cell _).trans lI_3) _ Tryd.underlying3 rfl rfl
            simp only [Act.put, List.setIfInBounds_toArray, List.set_cons_zero, List.set_cons_succ]
            refine wpAnyH_ready (rs := [1]) (by kernel_rfl) (by simp) ?_
            refine AllReadyH.cons (o := ?oi33) ?hi33 (fun K hK => ?_) AllReadyH.nil
            case hi33 => (simp only [List.getElem?_toArray, List.getElem?_cons_zero, List.getElem?_cons_succ]; rfl)
            rw [if_pos (by rfl)]
            (with_reducible refine s_ldc w.heap.size 0 ?_ _ (.int .u32 (X : Nat)) _ hr ?_ _ Tryd.underlying22 ?_ ?_)
            · exact rfl
            · exact rfl
            · exact rfl
            have hH2 := hide hHeld
            clear hHeld
            refine hK.out _ _ ?_ (fun hHeld => ?_)
            · exact hH2.out
            clear hK K
            clear hH2
            refine wpAnyH_ready (rs := [6]) (by kernel_rfl) (by simp) ?_
            refine AllReadyH.cons (o := ?oi34) ?hi34 (fun K hK => ?_) AllReadyH.nil
            case hi34 => (simp only [List.getElem?_toArray, List.getElem?_cons_zero, List.getElem?_cons_succ]; rfl)
            go_simp
            (with_reducible refine (HS.out _).mono ?_)
            rintro e V ⟨rfl, hbc⟩
            have hH2 := hide (And.intro (hHeld.1.bl hbc) (And.intro (hHeld.2.1.bl hbc) (below_bl rfl hHeld.2.2 hbc)))
            replace hr := hr.bl hbc
            clear hHeld hbc
            go_simp
            refine hK.out _ _ ?_ (fun hHeld => ?_)
            · exact hH2.out
            clear hK K
            clear hH2
            refine wpAnyH_take (i := 7) (oi := ?oi35) (v := .pointer (some ⟨w.heap.size, 0, none⟩)) ?hi35 (by kernel_rfl) (by kernel_rfl) (by kernel_rfl) ?hQ35 ?hy35 (by assumption) ?rest35
            case hi35 => (simp only [List.getElem?_toArray, List.getElem?_cons_zero, List.getElem?_cons_succ]; rfl)
            case hQ35 => exact fun _ _ _ h => h
            case hy35 => exact Or.inl ⟨by rfl, by (intro w hSw; (try dsimp only at hSw); go_simp )⟩
            simp only [Act.put, List.setIfInBounds_toArray, List.set_cons_zero, List.set_cons_succ]
            refine wpAnyH_ready (rs := [8]) (by kernel_rfl) (by simp) ?_
            refine AllReadyH.cons (o := ?oi36) ?hi36 (fun K hK => ?_) AllReadyH.nil
            case hi36 => (simp only [List.getElem?_toArray, List.getElem?_cons_zero, List.getElem?_cons_succ]; rfl)
            rw [if_pos (by rfl)]
            (with_reducible refine s_stc w.heap.size 0 ?_ (.int .u32 ((X ||| 8 : Nat) : Int)) ?_ _ (s.stw (X ||| 8)).cells _ hr ?_ ?_ ?_ ?_ ?_)
            · exact rfl
            · exact rfl
            · exact size_u32i
            · exact (show 0 < 21 by decide)
            · exact rfl
            · exact rfl
            intro V hnew ho
            have hH2 := hide (And.intro (hHeld.1.only ho (by omega)) (And.intro (hHeld.2.1.only ho (by omega)) (ho.bel _ _ (by omega) hHeld.2.2)))
            replace hr := hnew
            clear hHeld
            refine hK.out _ _ ?_ (fun hHeld => ?_)
            · exact hH2.out
            clear hK K
            clear hH2
            refine wpAnyH_done (by kernel_rfl) ?_ _
            have hq := hHeld.1
            have hl := hHeld.2.1
            have hb := hHeld.2.2
            clear hHeld
            go_wp2
            go_roundw
            case rel => exact ⟨4, by omega, by go_num, by rw [HN.out]; exact hr, hq, hl, hb⟩
            case measure => decide
          · have k1 : ((s.d1 : Int) != 1) = true := by simp; omega
            have k1' : (((s.stw X).d1 : Int) != 1) = true := k1
            have HN : Hid (stK s v 4 = X) := hide (by show st4 s v = _; unfold st4; rw [show setl s = false by unfold setl; rw [decide_eq_false hd1, Bool.and_false], Bool.and_false, if_neg (by decide)]; exact hX)
            clear hX
            go_wp2_with (first | (go_at_call 30; (with_reducible refine (H.out _).mono ?_); rintro e W ⟨rfl, rfl⟩))
            go_roundw
            case rel => exact ⟨4, by omega, by go_num, by rw [HN.out]; exact hr, hq, hl, hb⟩
            case measure => decide
        · have k0 : ((s.d0 : Int) != 0) = true := by simp; omega
          have k0' : (((s.stw X).d0 : Int) != 0) = true := k0
          have HN : Hid (stK s v 4 = X) := hide (by show st4 s v = _; unfold st4; rw [show setl s = false by unfold setl; rw [decide_eq_false hd0]; rfl, Bool.and_false, if_neg (by decide)]; exact hX)
          clear hX
          go_wp2_with (first | (go_at_call 30; (with_reducible refine (H.out _).mono ?_); rintro e W ⟨rfl, rfl⟩))
          go_roundw
          case rel => exact ⟨4, by omega, by go_num, by rw [HN.out]; exact hr, hq, hl, hb⟩
          case measure => decide
    · have HX := hide (stK_lt ok v 4)
      obtain ⟨X, hX⟩ : ∃ x, stK s v 4 = x := ⟨_, rfl⟩
      rw [hX] at hr HX
      have HS := hide (fun w => rset_2 X HX.out w)
      have H := hide (fun w => rhas_2 v hv w)
      have fx := hr.cell
      have fl := hl.cell
      have HB := hide (fun w => rhas_3 (s.stw X).st HX.out w)
      cases hb0 : v.testBit 2 with
      | false =>
        have HN : Hid (stK s v 5 = X) := hide (by show st5 s v = _; unfold st5; rw [hb0, Bool.false_and, if_neg (by decide)]; exact hX)
        rw [hb0] at H
        clear hX
        go_wp2_with (first | (go_at_call 30; (with_reducible refine (H.out _).mono ?_); rintro e W ⟨rfl, rfl⟩))
        go_roundw
        case rel => exact ⟨5, by omega, by go_num, by rw [HN.out]; exact hr, hq, hl, hb⟩
        case measure => decide
      | true =>
        rw [hb0] at H
        cases hb3 : X.testBit 3 with
        | false =>
          have HN : Hid (stK s v 5 = X) := hide (by show st5 s v = _; unfold st5; rw [show st4 s v = X from hX, hb3, Bool.and_false, if_neg (by decide)])
          rw [show (s.stw X).st.testBit 3 = false from hb3] at HB
          clear hX
          go_wp2_with (first | (go_at_call 30; (with_reducible refine (H.out _).mono ?_); rintro e W ⟨rfl, rfl⟩) | (go_at_call 30; (with_reducible refine (HB.out _).mono ?_); rintro e W ⟨rfl, rfl⟩))
          go_roundw
          case rel => exact ⟨5, by omega, by go_num, by rw [HN.out]; exact hr, hq, hl, hb⟩
          case measure => decide
        | true =>
          have HN : Hid (stK s v 5 = X ||| 4) := hide (by show st5 s v = _; unfold st5; rw [show st4 s v = X from hX, hb0, hb3]; rfl)
          rw [show (s.stw X).st.testBit 3 = true from hb3] at HB
          clear hX
          go_wp2_with (first | (go_at_call 30; (with_reducible refine (H.out _).mono ?_); rintro e W ⟨rfl, rfl⟩) | (go_at_call 30; (with_reducible refine (HB.out _).mono ?_); rintro e W ⟨rfl, rfl⟩))
          refine wp_region_held_drew (S := (fun V => RowAt V (w.heap.size + 1) zeroV.cells 31 ∧ RowAt V (w.heap.size + 2) lI 3 ∧ Below w.heap.size w V)) (by kernel_rfl) ?_ (fun hHeld => ?_)
          · exact ⟨hq.dr, hl.dr, hb.drew⟩
          replace hr := hr.dr
          generalize World.drew _ = V at hHeld hr ⊢
          clear hq hl hb
          refine wpAnyH_take (i := 0) (oi := ?oi37) (v := .pointer (some ⟨w.heap.size, 0, none⟩)) ?hi37 (by kernel_rfl) (by kernel_rfl) (by kernel_rfl) ?hQ37 ?hy37 (by assumption) ?rest37
          case hi37 => (simp only [List.getElem?_toArray, List.getElem?_cons_zero]; rfl)
          case hQ37 => exact fun _ _ _ h => h
          case hy37 => exact Or.inl ⟨by rfl, by (intro w hSw; (try dsimp only at hSw); go_simp )⟩
          simp only [Act.put, List.setIfInBounds_toArray, List.set_cons_zero, List.set_cons_succ]
          refine wpAnyH_take (i := 2) (oi := ?oi38) (v := .slice (some ⟨w.heap.size + 2, 0, none⟩) 5 5) ?hi38 (by kernel_rfl) (by kernel_rfl) (by kernel_rfl) ?hQ38 ?hy38 (by assumption) ?rest38
          case hi38 => (simp only [List.getElem?_toArray, List.getElem?_cons_zero, List.getElem?_cons_succ]; rfl)
          case hQ38 => exact fun _ _ _ h => h
          case hy38 => exact Or.inl ⟨by rfl, by (intro w hSw; (try dsimp only at hSw); go_simp )⟩
          simp only [Act.put, List.setIfInBounds_toArray, List.set_cons_zero, List.set_cons_succ]
          refine wpAnyH_take (i := 3) (oi := ?oi39) (v := .int .i64 4) ?hi39 (by kernel_rfl) (by kernel_rfl) (by kernel_rfl) ?hQ39 ?hy39 (by assumption) ?rest39
          case hi39 => (simp only [List.getElem?_toArray, List.getElem?_cons_zero, List.getElem?_cons_succ]; rfl)
          case hQ39 => exact fun _ _ _ h => h
          case hy39 => exact Or.inl ⟨by rfl, by (intro w hSw; (try dsimp only at hSw); go_simp )⟩
          simp only [Act.put, List.setIfInBounds_toArray, List.set_cons_zero, List.set_cons_succ]
          refine wpAnyH_take (i := 4) (oi := ?oi40) (v := .pointer (some ⟨w.heap.size + 2, 4, none⟩)) ?hi40 (by kernel_rfl) (by kernel_rfl) (by kernel_rfl) ?hQ40 ?hy40 (by assumption) ?rest40
          case hi40 => (simp only [List.getElem?_toArray, List.getElem?_cons_zero, List.getElem?_cons_succ]; rfl)
          case hQ40 => exact fun _ _ _ h => h
          case hy40 => exact Or.inl ⟨by rfl, by (intro w hSw; (try dsimp only at hSw); go_simp )⟩
          simp only [Act.put, List.setIfInBounds_toArray, List.set_cons_zero, List.set_cons_succ]
          refine wpAnyH_take (i := 5) (oi := ?oi41) (v := .int .i64 2) ?hi41 (by kernel_rfl) (by kernel_rfl) (by kernel_rfl) ?hQ41 ?hy41 (by assumption) ?rest41
          case hi41 => (simp only [List.getElem?_toArray, List.getElem?_cons_zero, List.getElem?_cons_succ]; rfl)
          case hQ41 => exact fun _ _ _ h => h
          case hy41 => exact y_cell (w.heap.size + 2) 4 _ (fun V hV => (hV.2.1.cell _).trans lI_4) _ Tryd.underlying3 rfl rfl
          simp only [Act.put, List.setIfInBounds_toArray, List.set_cons_zero, List.set_cons_succ]
          refine wpAnyH_ready (rs := [1]) (by kernel_rfl) (by simp) ?_
          refine AllReadyH.cons (o := ?oi42) ?hi42 (fun K hK => ?_) AllReadyH.nil
          case hi42 => (simp only [List.getElem?_toArray, List.getElem?_cons_zero, List.getElem?_cons_succ]; rfl)
          rw [if_pos (by rfl)]
          (with_reducible refine s_ldc w.heap.size 0 ?_ _ (.int .u32 (X : Nat)) _ hr ?_ _ Tryd.underlying22 ?_ ?_)
          · exact rfl
          · exact rfl
          · exact rfl
          have hH2 := hide hHeld
          clear hHeld
          refine hK.out _ _ ?_ (fun hHeld => ?_)
          · exact hH2.out
          clear hK K
          clear hH2
          refine wpAnyH_ready (rs := [6]) (by kernel_rfl) (by simp) ?_
          refine AllReadyH.cons (o := ?oi43) ?hi43 (fun K hK => ?_) AllReadyH.nil
          case hi43 => (simp only [List.getElem?_toArray, List.getElem?_cons_zero, List.getElem?_cons_succ]; rfl)
          go_simp
          (with_reducible refine (HS.out _).mono ?_)
          rintro e V ⟨rfl, hbc⟩
          have hH2 := hide (And.intro (hHeld.1.bl hbc) (And.intro (hHeld.2.1.bl hbc) (below_bl rfl hHeld.2.2 hbc)))
          replace hr := hr.bl hbc
          clear hHeld hbc
          go_simp
          refine hK.out _ _ ?_ (fun hHeld => ?_)
          · exact hH2.out
          clear hK K
          clear hH2
          refine wpAnyH_take (i := 7) (oi := ?oi44) (v := .pointer (some ⟨w.heap.size, 0, none⟩)) ?hi44 (by kernel_rfl) (by kernel_rfl) (by kernel_rfl) ?hQ44 ?hy44 (by assumption) ?rest44
          case hi44 => (simp only [List.getElem?_toArray, List.getElem?_cons_zero, List.getElem?_cons_succ]; rfl)
          case hQ44 => exact fun _ _ _ h => h
          case hy44 => exact Or.inl ⟨by rfl, by (intro w hSw; (try dsimp only at hSw); go_simp )⟩
          simp only [Act.put, List.setIfInBounds_toArray, List.set_cons_zero, List.set_cons_succ]
          refine wpAnyH_ready (rs := [8]) (by kernel_rfl) (by simp) ?_
          refine AllReadyH.cons (o := ?oi45) ?hi45 (fun K hK => ?_) AllReadyH.nil
          case hi45 => (simp only [List.getElem?_toArray, List.getElem?_cons_zero, List.getElem?_cons_succ]; rfl)
          rw [if_pos (by rfl)]
          (with_reducible refine s_stc w.heap.size 0 ?_ (.int .u32 ((X ||| 4 : Nat) : Int)) ?_ _ (s.stw (X ||| 4)).cells _ hr ?_ ?_ ?_ ?_ ?_)
          · exact rfl
          · exact rfl
          · exact size_u32i
          · exact (show 0 < 21 by decide)
          · exact rfl
          · exact rfl
          intro V hnew ho
          have hH2 := hide (And.intro (hHeld.1.only ho (by omega)) (And.intro (hHeld.2.1.only ho (by omega)) (ho.bel _ _ (by omega) hHeld.2.2)))
          replace hr := hnew
          clear hHeld
          refine hK.out _ _ ?_ (fun hHeld => ?_)
          · exact hH2.out
          clear hK K
          clear hH2
          refine wpAnyH_done (by kernel_rfl) ?_ _
          have hq := hHeld.1
          have hl := hHeld.2.1
          have hb := hHeld.2.2
          clear hHeld
          go_wp2
          go_roundw
          case rel => exact ⟨5, by omega, by go_num, by rw [HN.out]; exact hr, hq, hl, hb⟩
          case measure => decide
    · go_wp2_with (first | ((with_reducible refine ld_vr w.heap.size _ hr ?_ ?_ ?_); exact rfl; exact rfl) | ((with_reducible refine st_vr (w.heap.size + 1) _ (s.stw (st5 s v)) hq ?_ ?_ ?_); exact rfl; exact rfl; intro W hnew ho; replace hr := hr.only ho (by omega); replace hq := hnew; replace hb := ho.bel _ _ (by omega) hb))
      refine bodyPost_ret (results_cell_row Tryd.results37 _ _ (w.heap.size + 1) _ _ _ _ rfl hq Tryd.underlying31 rfl size_vr) rfl ?_
      exact ⟨rfl, hb⟩

theorem rstat_any (s : V) (ok : s.Ok) (v : Nat) (hv : v < 4294967296) (w : World) : Calls Tryd.prog 37 #[.agg s.cells, .int .u32 (v : Nat)] w fun e w' => e = .returned (.agg (statV s v).cells) ∧ Below w.heap.size w w' := by
  by_cases h : v = 0
  · exact rstat_0 s ok v h w
  · exact rstat_n s ok v hv h w
end Go.Proofs.YtahgacdkofmbmaaDoor
