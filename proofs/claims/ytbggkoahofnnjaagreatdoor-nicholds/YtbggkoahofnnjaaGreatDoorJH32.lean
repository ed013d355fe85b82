/-
  What nic's withHead answers.
-/
import Derived.Test.YtbggkoahofnnjaaGreatDoorJH28
import Derived.Test.YtbggkoahofnnjaaGreatDoorJH31
import Derived.Test.YtbggkoahofnnjaaGreatDoorJH27
import Derived.Test.YtbggkoahofnnjaaGreatDoorJH21
namespace Go.Proofs.YtbggkoahofnnjaaGreatDoor
open Go.RowKit
set_option linter.unusedVariables false
set_option linter.unusedSimpArgs false

variable {ops : Array Oper} {rest : List Oper} {dst : Option Tmp} {ty : TypeId} {pos : String} {after : Array Edge} {a : Act} {w : World} {Q : Exit → Act → World → Prop} {K : Act → World → Prop} {x y : Operand} {gd : Option (Nat × Bool)}
def suC : Array Value := #[.int .u32 (0), .int .u32 (2147484416), .int .u32 (8), .int .u32 (13), .int .u32 (256), .int .u32 (65536), .int .u32 (780), .int .u32 (7)]
theorem bs_su (N : Nat) (hN : w.heap.size = N) (x0 x1 x2 x3 : Operand) (h0 : a.eval x0 = .agg #[.int .u32 (0), .int .u32 (2147484416)]) (h1 : a.eval x1 = .agg #[.int .u32 (8), .int .u32 (13)]) (h2 : a.eval x2 = .agg #[.int .u32 (256), .int .u32 (65536)]) (h3 : a.eval x3 = .agg #[.int .u32 (780), .int .u32 (7)])
    (kont : ∀ W, RowAt W N (suC) 23 → Below N w W → Hid (W.heap.size = N + 1) → wpList Tryz.prog ops Q rest (a.put dst (.slice (some ⟨N, 0, none⟩) 4 4)) W) :
    wpList Tryz.prog ops Q (⟨dst, .buildSlice 58 4 #[(0, x0), (1, x1), (2, x2), (3, x3)], ty, pos, after, none⟩ :: rest) a w :=
  op_bsn 58 23 4 Tryz.underlying58 (suC) N hN [(0, .agg #[.int .u32 (0), .int .u32 (2147484416)]), (1, .agg #[.int .u32 (8), .int .u32 (13)]), (2, .agg #[.int .u32 (256), .int .u32 (65536)]), (3, .agg #[.int .u32 (780), .int .u32 (7)])] (by simp [h0, h1, h2, h3]) ⟨by kernel_rfl⟩ kont
theorem pairs_su {W : World} {N B : Nat} (h : RowAt W N (suC) 23) (hB : N < B) : PairsAt W B (some ⟨N, 0, none⟩) 4 (suG) := by
  refine ⟨fun j hj => ⟨N, 0, rfl, hB, ?_, ?_⟩, fun j hj => ?_⟩
  · rw [h.cell]; rcases j with _ | _ | _ | _ | j <;> first | rfl | omega
  · rw [h.cell]; rcases j with _ | _ | _ | _ | j <;> first | rfl | omega | (simp [suC, suG]; done) | (simp [suC, suG]; omega)
  · rcases j with _ | _ | _ | _ | j <;> first | (constructor <;> decide) | omega | (constructor <;> first | decide | (simp [suG]; done) | (simp [suG]; omega))
theorem map_one {α β : Type} {l : List (α × β)} {x : α} (h : l.map (·.1) = [x]) : ∃ y, l = [(x, y)] := by
  rcases l with _ | ⟨⟨a, b⟩, _ | ⟨c, t⟩⟩
  · cases h
  · simp only [List.map_cons, List.map_nil, List.cons.injEq, and_true] at h; exact ⟨b, by rw [h]⟩
  · simp at h
theorem frs_one {W : World} {B : Nat} {O : Nat → Prop} {ov dv : Value} {fr : List Nat} (h : FrsAt W B O ov [(fr, dv)]) : ∃ g cap, ov = .slice (some ⟨g, 0, none⟩) 1 cap := by
  obtain ⟨g, cap, e, _⟩ := own_pos h.row (by show 0 < 1; decide)
  exact ⟨g, cap, e⟩
theorem frs_cell {W : World} {B g cap n : Nat} {O : Nat → Prop} {l : List (List Nat × Value)} {fr : List Nat} {dv : Value} (h : FrsAt W B O (.slice (some ⟨g, 0, none⟩) n cap) l) (j : Nat) (hj : l[j]? = some (fr, dv)) : W.cell? ⟨g, j, none⟩ = some dv := by
  obtain ⟨g', cap', e, _, _, _, _, hc⟩ := own_pos h.row (by have := (List.getElem?_eq_some_iff.1 hj).1; omega)
  injection e with e1 e2 e3
  cases e1
  exact hc j dv (by rw [List.getElem?_map, hj]; rfl)
theorem conv_fr {W : World} {B : Nat} {O : Nat → Prop} {fr : List Nat} {dv : Value} (h : FrAt W B O fr dv) : (convert 60 9 dv).run Tryz.prog W = .ok (.string (txtR fr)) W := by
  obtain ⟨g, cap, all, rfl, h0, h1, h2, rfl, h3, h4⟩ := h.ex
  have hc := fun j u hu => h1.cells (g := g) rfl j u hu
  have k := conv_row (w := W) (g := g) (o := 12) (l := all.length - 12) (c := cap - 12) (f := fun j => ((all.drop 12)[j]?).getD 0) (fun j => by
    cases e : (all.drop 12)[j]? with
    | none => show (0 : Nat) < 256; decide
    | some y => exact h4 y (List.mem_of_mem_drop (List.mem_of_getElem? e))) (fun j hj => by
    have hj2 : 12 + j < all.length := by omega
    have := hc (12 + j) (.int .u8 ((((all.drop 12)[j]?).getD 0 : Nat) : Int)) (by rw [byteV, List.getElem?_map, List.getElem?_drop, List.getElem?_eq_getElem hj2]; rfl)
    rwa [show (⟨g, 0, none⟩ : Addr).add (12 + j) = ⟨g, 12 + j, none⟩ by unfold Addr.add; split <;> simp_all] at this)
  rw [show all.length - 12 = (all.drop 12).length by rw [List.length_drop], getD_range] at k
  rw [show all.length - 12 = (all.drop 12).length by rw [List.length_drop]]
  exact k
/-- Send of the device that works, when one frame comes of it. -/
theorem send_lv {W : World} {B b c : Nat} {f f2 : Nat → Nat} {O : Nat → Prop} (hM : RamB W B b 2 f c O) (hA : AreasAt W) (hG : 2 < B) (hc : c ≤ 100000) {s t : Nc} (ok : s.Ok) {fr : List Nat} (hp : sendV 2 f s = (f2, t, [fr])) :
    Calls Tryz.prog 17 #[.agg s.c, .pointer (some ⟨b, 0, none⟩)] W fun e w' => ∃ g cap dv O', e = .returned (.tuple #[.agg t.c, .slice (some ⟨g, 0, none⟩) 1 cap]) ∧ RamB w' B b 2 f2 (c + 1200) O' ∧ Went B O O' W w' ∧ FrsAt w' W.heap.size O' (.slice (some ⟨g, 0, none⟩) 1 cap) [(fr, dv)] := by
  have h := nsend_any s ok hM hA hG (by omega)
  rw [hp] at h
  refine h.mono ?_
  rintro e w' ⟨ov, ls, O', rfl, h1, h2, h3, h4⟩
  simp only at h1
  obtain ⟨dv, rfl⟩ := map_one h1
  obtain ⟨g, cap, rfl⟩ := frs_one h4
  exact ⟨g, cap, dv, O', rfl, h2, h3, h4⟩
def suT : Nc := ⟨lvN 1 1 1 1, false, 0⟩
set_option maxRecDepth 20000 in
set_option maxHeartbeats 4000000 in
theorem nsure_any (w : World) (hA : AreasAt w) : Calls Tryz.prog 15 #[] w fun e w' => e = .returned (.bool true) ∧ Below w.heap.size w w' := by
  obtain ⟨B, hB⟩ : ∃ B, w.heap.size = B := ⟨_, rfl⟩
  have hG0 : 2 < B := hB ▸ hA.lt
  have hG : 2 < B + 1 + 1 := by omega
  have hA0 := hA
  rw [hB]
  have HBo : Hid (∀ W, W.heap.size = B + 1 → RowAt W B suC 23 → Calls Tryz.prog 16 #[.slice (some ⟨B, 0, none⟩) 4 4] W fun e w' => ∃ b O r, e = .returned (.tuple #[.pointer (some ⟨b, 0, none⟩), .agg (RP.v r 8192 2)]) ∧ RamB w' (B + 1 + 1) b 2 suF 80 O ∧ Below (B + 1) W w') := hide (fun W hz hr => by
    have h := rboth_any (some ⟨B, 0, none⟩) 4 4 suG W (pairs_su hr (by omega)) (by decide) (by decide)
    rw [hz] at h
    exact h.mono (by
      rintro e w' ⟨b, f, O, r, hf, he, h1, _, h3⟩
      rw [hf] at h1
      exact ⟨b, O, r, he, h1, h3⟩))
  have HLi := hide live_1
  have HSe : Hid (∀ W O1 b, RamB W (B + 1 + 1) b 2 suF 80 O1 → AreasAt W → Calls Tryz.prog 17 #[.agg (lvS 1).c, .pointer (some ⟨b, 0, none⟩)] W fun e w' => ∃ g cap dv O', e = .returned (.tuple #[.agg suT.c, .slice (some ⟨g, 0, none⟩) 1 cap]) ∧ RamB w' (B + 1 + 1) b 2 (sendV 2 suF (lvS 1)).1 1280 O' ∧ Went (B + 1 + 1) O1 O' W w' ∧ FrsAt w' W.heap.size O' (.slice (some ⟨g, 0, none⟩) 1 cap) [([7], dv)]) := hide (fun W O1 b hM hA => send_lv hM hA hG (by decide) (lvS_ok 1) (by
    have h := su_send
    exact Prod.ext rfl h))
  generalize (sendV 2 suF (lvS 1)).1 = f9 at *
  clear hA
  go_enter Tryz.func15, Tryz.ntmps15
  go_wp2_with (first | ((with_reducible refine bs_su B ?_ _ _ _ _ ?_ ?_ ?_ ?_ ?_); exact hB; exact rfl; exact rfl; exact rfl; exact rfl; intro W hq hb hz) | (go_at_call 16; (with_reducible refine (HBo.out _ hz.out hq).mono ?_); rintro e W1 ⟨b, O, r, rfl, hM, hbc⟩; replace hb := hb.trans (hbc.mono (by omega)); have hA := hA0.bl (hB ▸ hb); obtain ⟨NX, hNX0⟩ : ∃ n, W1.heap.size = n := ⟨_, rfl⟩; have hNX := hide hNX0; have hNB : B + 1 + 1 ≤ NX := hNX0 ▸ hM.base; have hnx : ¬ O NX := (fun e => absurd (hM.lt _ e) (by omega)); clear hNX0 hbc hq hz) | ((with_reducible refine al_Rz NX ?_ ?_); exact hNX.out; intro W hx hb' hz2; have hbc : Below W1.heap.size W1 W := (by rw [hNX.out]; exact hb'); replace hb := hb.trans (hb'.mono (by omega)); replace hM := hM.bl hbc; replace hA := hA.bl hbc; clear hb' hbc) | ((with_reducible refine st_R NX _ r 8192 2 hx ?_ ?_ ?_ ?_); exact rfl; exact rfl; exact rfl; intro W hnew hoo; replace hM := hM.only hoo hnx; replace hA := hA.onlyR hoo (by omega); replace hb := hoo.bel _ _ (by omega) hb; clear hnew hoo hx) | (go_at_call 32; (with_reducible refine (HLi.out _).mono ?_); rintro e W ⟨rfl, hbc⟩; replace hb := hb.trans (hbc.mono (by have := hM.base; omega)); replace hM := hM.bl hbc; replace hA := hA.bl hbc; clear hbc) | (go_at_call 17; (with_reducible refine (HSe.out _ _ _ hM hA).mono ?_); rintro e W2 ⟨ga, ca, dv, O2, rfl, hM2, hW2, hY⟩; replace hb := hb.trans (hW2.below.mono (by omega)); replace hA := hA.wentR hG hW2; replace hM := hM2; clear hM2 hW2; obtain ⟨NR, hNR0⟩ : ∃ n, W2.heap.size = n := ⟨_, rfl⟩; have hNR := hide hNR0; have hRB : B + 1 + 1 ≤ NR := hNR0 ▸ hM.base; have hnr : ¬ O2 NR := (fun e => absurd (hM.lt _ e) (by omega)); clear hNR0) | ((with_reducible refine al_nc NR ?_ ?_); exact hNR.out; intro W hr hb' hz2; have hbc : Below W2.heap.size W2 W := (by rw [hNR.out]; exact hb'); replace hb := hb.trans (hb'.mono (by omega)); replace hY := hY.bl hbc; clear hM hA hb' hbc hz2) | ((with_reducible refine st_nc NR _ suT hr ?_ ?_ ?_); exact rfl; exact rfl; intro W hnew hoo; replace hb := hoo.bel _ _ (by omega) hb; replace hY := hY.only hoo hr (by decide) (by decide); (have hc0 := frs_cell hY 0 rfl); (have hcv : (convert 60 9 dv).run Tryz.prog _ = .ok (.string ⟨#[7]⟩) _ := conv_fr (hY.dat _ (List.mem_singleton.2 rfl))); (have fx := hnew.cell 4); (have fy : suT.c[4]? = some (.int .u32 1) := rfl); rw [fy] at fx; clear fy hY hoo hr hnew))
  go_ret
  exact ⟨rfl, hb⟩
end Go.Proofs.YtbggkoahofnnjaaGreatDoor
namespace Go.Proofs.YtbggkoahofnnjaaGreatDoor
open Go.RowKit
set_option linter.unusedVariables false
set_option linter.unusedSimpArgs false

variable {ops : Array Oper} {rest : List Oper} {dst : Option Tmp} {ty : TypeId} {pos : String} {after : Array Edge} {a : Act} {w : World} {Q : Exit → Act → World → Prop} {K : Act → World → Prop} {x y : Operand} {gd : Option (Nat × Bool)}
set_option maxRecDepth 20000 in
theorem mk_h (k0 : Nat) (hk : k0 ≤ 100000) (h12 : 12 ≤ k0) (N : Nat) (hN : w.heap.size = N) (hx : a.eval x = .int .i64 12) (hy : a.eval y = .int .i64 (k0 : Nat))
    (k : ∀ W, RowAt W N (madeCells #[.int .u8 0] k0) 5 → Below N w W → Hid (W.heap.size = N + 1) → wpList Tryz.prog ops Q rest (a.put dst (.slice (some ⟨N, 0, none⟩) 12 k0)) W) :
    wpList Tryz.prog ops Q (⟨dst, .makeSlice 60 x y, ty, pos, after, none⟩ :: rest) a w := by
  refine wpList_plain rfl fun K2 hK => ?_
  subst hN
  obtain ⟨i, h1, h2, h3, h4⟩ := info_b
  have hr := run_make (P := Tryz.prog) w 60 5 i _ Tryz.underlying60 h1 h2 .i64 .i64 12 (k0 : Int) (by decide) (by omega) (by rw [h4]; omega) (by omega)
  rw [Int.toNat_natCast, h3, Nat.mul_one] at hr
  have : (execOp a.eval ⟨dst, .makeSlice 60 x y, ty, pos, after, none⟩).run Tryz.prog w = .ok (.value (.slice (some ⟨w.heap.size, 0, none⟩) 12 k0)) (w.alloc (.cells (madeCells #[.int .u8 0] k0) 5)) := by
    unfold execOp
    simp only [hx, hy, Sem.run_bind, hr, Result.andThen_ok, Sem.run_pure]
    rfl
  unfold Oper.wp
  rw [this, Oper.upon_value]
  exact hK _ _ (k _ (RowAt.new w _ _ 5 rfl) (below_one w _) (hide (by simp)))
theorem st_h (b k0 : Nat) (h12 : 12 ≤ k0) (hr : RowAt w b (madeCells #[.int .u8 0] k0) 5) (hx : a.eval x = .pointer (some ⟨b, 10, none⟩)) (hy : a.eval y = .int .u8 1)
    (k : ∀ W, RowAt W b ((madeCells #[.int .u8 0] k0).setIfInBounds 10 (.int .u8 1)) 5 → Only b w W → wpList Tryz.prog ops Q rest (a.put dst undef) W) : wpList Tryz.prog ops Q (⟨dst, .store 5 x y, ty, pos, after, none⟩ :: rest) a w :=
  op_store_cell b 10 hx _ hy (madeCells #[.int .u8 0] k0) _ _ hr (by kernel_rfl) (by rw [size_madeCells]; omega) rfl rfl k
theorem head_take (M : Nat) : (((madeCells #[Value.int .u8 0] (M + 12)).setIfInBounds 10 (.int .u8 1)).toList.take 12) = byteV headL := by
  rw [Array.toList_setIfInBounds, toList_madeCells_one]
  rfl
theorem app_h (g M k0 fb fo bcap : Nat) (hk : k0 = M + 12) (hk1 : k0 ≤ 100000) (bl : List Nat) (hM : bl.length = M) (hr : RowAt w g ((madeCells #[.int .u8 0] k0).setIfInBounds 10 (.int .u8 1)) 5) (hfb : ∀ j (h : j < bl.length), w.cell? ⟨fb, fo + j, none⟩ = some (.int .u8 (bl[j] : Nat)))
    (hx : a.eval x = .slice (some ⟨g, 0, none⟩) 12 k0) (hy : a.eval y = .slice (some ⟨fb, fo, none⟩) M bcap)
    (k : ∀ W, W.ownsRow g 5 1 (.slice (some ⟨g, 0, none⟩) k0 k0) k0 (byteV (headL ++ bl)) → w.grownBy W (some g) → wpList Tryz.prog ops Q rest (a.put dst (.slice (some ⟨g, 0, none⟩) k0 k0)) W) :
    wpList Tryz.prog ops Q (⟨dst, .call { callee := .builtin .append, args := #[x, y], argTypes := #[60, 60] }, 60, pos, after, none⟩ :: rest) a w := by
  obtain ⟨i, h1, h2, h3, h4⟩ := info_b
  have hown : w.ownsRow g 5 1 (.slice (some ⟨g, 0, none⟩) 12 k0) 12 (byteV headL) := by
    refine ⟨rfl, .inr ⟨g, k0, _, rfl, Nat.le_refl _, hr, by omega, by unfold maxLen; omega, ?_, ?_⟩⟩
    · rw [Array.size_setIfInBounds, size_madeCells]; simp
    · subst hk; exact head_take M
  have h := op_appf (P := Tryz.prog) (ops := ops) (rest := rest) (dst := dst) (pos := pos) (after := after) (Q := Q) 60 5 i 1 Tryz.underlying60 h1 h3 hown ⟨fb, fo, none⟩ M bcap (byteV bl) (by rw [byteV, List.length_map, hM, Nat.mul_one]) (fun j u hu => ?_) (fun u hu => ?_) (by omega) hx hy
  · rw [show 12 + M = k0 by omega, ← byteV_append] at h
    exact h k
  · rw [byteV, List.getElem?_map] at hu
    have hj : j < bl.length := by
      rcases Nat.lt_or_ge j bl.length with q | q
      · exact q
      · rw [List.getElem?_eq_none q] at hu; cases hu
    rw [List.getElem?_eq_getElem hj] at hu
    rw [← hu, Addr.add_mid]
    exact hfb j hj
  · obtain ⟨z, _, rfl⟩ := List.mem_map.1 hu
    rfl
set_option maxRecDepth 20000 in
set_option maxHeartbeats 2000000 in
theorem whead_any (bl : List Nat) (h0 : 0 < bl.length) (hl : bl.length ≤ 1514) (bcap : Nat) (ba : Option Addr) (w : World) {B : Nat} (hB : B ≤ w.heap.size) (hy : BytesAt w B ba bl) (k0 : Nat) (hk : k0 = bl.length + 12) :
    Calls Tryz.prog 53 #[.slice ba bl.length bcap] w fun e w' => e = .returned (.slice (some ⟨w.heap.size, 0, none⟩) k0 k0) ∧ w'.ownsRow w.heap.size 5 1 (.slice (some ⟨w.heap.size, 0, none⟩) k0 k0) k0 (byteV (headL ++ bl)) ∧ Below w.heap.size w w' := by
  obtain ⟨fb, fo, rfl, hfb, hc⟩ := hy.lies h0
  have HC := hide hc
  obtain ⟨M, hM⟩ : ∃ M, bl.length = M := ⟨_, rfl⟩
  rw [hM] at h0 hl hk ⊢
  have e1 : Hid (IntKind.i64.wrap (12 + (M : Int)) = ((k0 : Nat) : Int)) := hide (by rw [IntKind.wrap_i64]; omega)
  have e2 : Hid (wrap64 (12 + (M : Int)) = ((k0 : Nat) : Int)) := hide (by unfold wrap64; omega)
  have e3 : Hid (12 + (M : Int) = ((k0 : Nat) : Int)) := hide (by omega)
  have HM := hide hM
  have HK := hide hk
  have hk1 : k0 ≤ 100000 := by omega
  have hk2 : 12 ≤ k0 := by omega
  clear hc hM hy hk
  go_enter Tryz.func53, Tryz.ntmps53
  go_wp2_with (first | ((with_reducible refine mk_h k0 hk1 hk2 w.heap.size ?_ ?_ ?_ ?_); exact rfl; exact rfl; (first | exact congrArg (Value.int .i64) e1.out | exact congrArg (Value.int .i64) e2.out | exact congrArg (Value.int .i64) e3.out); intro W hg hb hz) | ((with_reducible refine st_h w.heap.size k0 hk2 hg ?_ ?_ ?_); exact rfl; exact rfl; intro W hnew ho; replace hb := ho.bel _ _ (by omega) hb; replace hg := hnew; clear hnew ho) | ((with_reducible refine app_h w.heap.size M k0 fb fo bcap HK.out hk1 bl HM.out hg (fun j hj => (hb.cell (p := ⟨fb, fo + j, none⟩) (Nat.lt_of_lt_of_le hfb hB)).trans (HC.out j hj)) ?_ ?_ ?_); exact rfl; exact rfl; intro W5 hY hg5))
  go_ret
  exact ⟨rfl, hY, grow_below hb hg5 hb.size (fun g e => by cases e; exact Nat.le_refl _)⟩
end Go.Proofs.YtbggkoahofnnjaaGreatDoor
