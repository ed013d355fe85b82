/-
  Two states of net devices compared.
-/
import Derived.Test.YtbggkoahofnnjaaGreatDoorJR27
import Derived.Test.YtbggkoahofnnjaaGreatDoorJR11
open Go.Proofs.Tryz
set_option linter.unusedVariables false
set_option linter.unusedSimpArgs false
namespace Go.Proofs.YtbggkoahofnnjaaGreatDoor
open Go.RowKit
set_option maxHeartbeats 1000000
def lv0 : Nc := ⟨zeroV, true, 0⟩
def lv1 : Nc := ⟨zeroV.stw 15, true, 0⟩
def lv2 : Nc := ⟨(zeroV.stw 15).d1w 1, true, 0⟩
def lvQ : Qu := ⟨true, lR 0 0⟩
variable {ops : Array Oper} {rest : List Oper} {dst : Option Tmp} {ty : TypeId} {pos : String} {after : Array Edge} {a : Act} {w : World} {Q : Exit → Act → World → Prop} {x y : Operand}
theorem st_l1 (b : Nat) (t' : TypeId) (hr : RowAt w b lv0.c t') (hx : a.eval x = .pointer (some ⟨b, 0, none⟩)) (hy : a.eval y = .int .u32 15)
    (k : ∀ W, RowAt W b lv1.c t' → Only b w W → wpList prog ops Q rest (a.put dst undef) W) : wpList prog ops Q (⟨dst, .store 22 x y, ty, pos, after, none⟩ :: rest) a w :=
  op_store_cell b 0 hx _ hy lv0.c _ _ hr size_u32i (by show 0 < 23; decide) rfl rfl k
theorem st_l2 (b : Nat) (t' : TypeId) (hr : RowAt w b lv1.c t') (hx : a.eval x = .pointer (some ⟨b, 5, none⟩)) (hy : a.eval y = .agg #[.int .u32 0, .int .u32 1])
    (k : ∀ W, RowAt W b lv2.c t' → Only b w W → wpList prog ops Q rest (a.put dst undef) W) : wpList prog ops Q (⟨dst, .store 23 x y, ty, pos, after, none⟩ :: rest) a w :=
  op_store_mid b 5 hx #[.int .u32 0, .int .u32 1] hy lv1.c _ _ hr size_drv (by show 5 + 2 ≤ 23; decide) (by simp [Value.oneCell']) (by kernel_rfl) k
theorem st_l3_1 (b : Nat) (t' : TypeId) (hr : RowAt w b lv2.c t') (hx : a.eval x = .pointer (some ⟨b, 14, none⟩)) (hy : a.eval y = .agg lvQ.cells)
    (k : ∀ W, RowAt W b (lvS 1).c t' → Only b w W → wpList prog ops Q rest (a.put dst undef) W) : wpList prog ops Q (⟨dst, .store 36 x y, ty, pos, after, none⟩ :: rest) a w :=
  op_store_mid b 14 hx lvQ.cells hy lv2.c _ _ hr size_qp (by show 14 + 7 ≤ 23; decide) (by kernel_rfl) (by kernel_rfl) k
theorem live_1 (w : World) : Calls prog 32 #[.int .i64 1] w fun e w' => e = .returned (.agg (lvS 1).c) ∧ Below w.heap.size w w' := by
  go_enter func32, ntmps32
  go_wp2_with (first | ((with_reducible refine al_nc w.heap.size ?_ ?_); exact rfl; intro W hq hb hz) | ((with_reducible refine al_nc (w.heap.size + 1) ?_ ?_); exact hz.out; intro W hx hb' hz'; replace hq := hq.bl (hz.out ▸ hb'); replace hb := hb.trans (hb'.mono (by omega)); clear hb' hz') | ((with_reducible refine st_nc (w.heap.size + 1) _ lv0 hx ?_ ?_ ?_); exact rfl; (first | exact rfl | kernel_rfl); intro W hnew ho; replace hq := hq.only ho (by omega); replace hx := hnew; replace hb := ho.bel _ _ (by omega) hb) | ((with_reducible refine st_l1 (w.heap.size + 1) _ hx ?_ ?_ ?_); exact rfl; (first | exact rfl | kernel_rfl); intro W hnew ho; replace hq := hq.only ho (by omega); replace hx := hnew; replace hb := ho.bel _ _ (by omega) hb) | ((with_reducible refine st_l2 (w.heap.size + 1) _ hx ?_ ?_ ?_); exact rfl; (first | exact rfl | kernel_rfl); intro W hnew ho; replace hq := hq.only ho (by omega); replace hx := hnew; replace hb := ho.bel _ _ (by omega) hb) | ((with_reducible refine st_l3_1 (w.heap.size + 1) _ hx ?_ ?_ ?_); exact rfl; (first | exact rfl | kernel_rfl); intro W hnew ho; replace hq := hq.only ho (by omega); replace hx := hnew; replace hb := ho.bel _ _ (by omega) hb) | ((with_reducible refine ld_nc (w.heap.size + 1) (lvS 1) hx ?_ ?_ ?_); exact rfl; exact rfl) | ((with_reducible refine st_nc w.heap.size _ (lvS 1) hq ?_ ?_ ?_); exact rfl; exact rfl; intro W hnew ho; replace hq := hnew; replace hb := ho.bel _ _ (by omega) hb))
  refine bodyPost_ret (results_cell_row results32 _ _ w.heap.size _ _ _ _ rfl hq underlying41 rfl size_nc) rfl ?_
  exact ⟨rfl, hb⟩
end Go.Proofs.YtbggkoahofnnjaaGreatDoor
namespace Go.Proofs.YtbggkoahofnnjaaGreatDoor
open Go.RowKit
set_option maxHeartbeats 1000000
theorem isfr_any (n : Int) (w : World) :
    Calls prog 51 #[.int .i64 n] w fun e w' => e = .returned (.bool (isFr n)) ∧ w' = w := by
  unfold isFr
  by_cases h1 : 1 ≤ n
  · have t1 : decide (1 ≤ n) = true := decide_eq_true h1
    rw [t1, Bool.true_and]
    by_cases h2 : n ≤ 1514
    · have t2 : decide (n ≤ 1514) = true := decide_eq_true h2
      rw [t2]
      go_enter func51, ntmps51
      go_wp2
      go_ret
      exact ⟨rfl, rfl⟩
    · have t2 : decide (n ≤ 1514) = false := decide_eq_false h2
      rw [t2]
      go_enter func51, ntmps51
      go_wp2
      go_ret
      exact ⟨rfl, rfl⟩
  · have t1 : decide (1 ≤ n) = false := decide_eq_false h1
    rw [t1, Bool.false_and]
    go_enter func51, ntmps51
    go_wp2
    go_ret
    exact ⟨rfl, rfl⟩
theorem works_1 (s : V) (ok : s.Ok) (w : World) :
    Calls prog 37 #[.agg s.cells, .int .i64 1] w fun e w' => e = .returned (.bool (ncWorks s 1)) ∧ Below w.heap.size w w' := by
  have HL := hide (fun w => live_any s ok w)
  have e0 : ncWorks s 1 = (liveV s && s.q1.rd) := rfl
  rw [e0]
  clear e0
  generalize liveV s = l at *
  cases l with
  | true =>
    rw [Bool.true_and]
    go_enter func37, ntmps37
    go_wp2_with (first | ((with_reducible refine bx_vp w.heap.size s ?_ ?_ ?_); exact rfl; exact rfl; intro W hr hb hz) | ((with_reducible refine ld_vp w.heap.size s hr ?_ ?_ ?_); exact rfl; exact rfl) | (go_at_call 78; (with_reducible refine (HL.out _).mono ?_); rintro e W ⟨rfl, hbc⟩; replace hr := hr.bl hbc; replace hb := below_bl rfl hb hbc) | ((with_reducible refine ld_rd1 w.heap.size s _ hr ?_ ?_ ?_); exact rfl; exact rfl))
    go_ret
    exact ⟨rfl, hb⟩
  | false =>
    rw [Bool.false_and]
    go_enter func37, ntmps37
    go_wp2_with (first | ((with_reducible refine bx_vp w.heap.size s ?_ ?_ ?_); exact rfl; exact rfl; intro W hr hb hz) | ((with_reducible refine ld_vp w.heap.size s hr ?_ ?_ ?_); exact rfl; exact rfl) | (go_at_call 78; (with_reducible refine (HL.out _).mono ?_); rintro e W ⟨rfl, hbc⟩; replace hr := hr.bl hbc; replace hb := below_bl rfl hb hbc))
    go_ret
    exact ⟨rfl, hb⟩
theorem failed_any (s : Nc) (ok : s.p.Ok) (w : World) :
    Calls prog 39 #[.agg s.c] w fun e w' => e = .returned (.agg s.fail.c) ∧ Below w.heap.size w w' := by
  have HL := hide (fun w => fail_any s.p ok w)
  have e0 : s.fail = s.pw (failV s.p) := rfl
  rw [e0]
  clear e0
  generalize failV s.p = p1 at *
  obtain ⟨t, ht⟩ : ∃ t, s.pw p1 = t := ⟨_, rfl⟩
  have HT := hide ht
  rw [ht]
  clear ht
  go_enter func39, ntmps39
  go_wp2_with (first | ((with_reducible refine bx_nc w.heap.size s ?_ ?_ ?_); exact rfl; exact rfl; intro W hr hb hz) | ((with_reducible refine al_nc (w.heap.size + 1) ?_ ?_); exact hz.out; intro W hq hb' hz'; replace hr := hr.bl (hz.out ▸ hb'); replace hb := hb.trans (hb'.mono (by omega)); replace hz := hz') | ((with_reducible refine ld_np w.heap.size s _ hr ?_ ?_ ?_); exact rfl; exact rfl) | (go_at_call 81; (with_reducible refine (HL.out _).mono ?_); rintro e W ⟨rfl, hbc⟩; replace hr := hr.bl hbc; replace hq := hq.bl hbc; replace hb := below_bl rfl hb hbc) | ((with_reducible refine st_np w.heap.size s p1 _ hr ?_ ?_ ?_); exact rfl; exact rfl; intro W hnew ho; rw [HT.out] at hnew; replace hq := hq.only ho (by omega); replace hr := hnew; replace hb := ho.bel _ _ (by omega) hb) | ((with_reducible refine ld_nc w.heap.size t hr ?_ ?_ ?_); exact rfl; exact rfl) | ((with_reducible refine st_nc (w.heap.size + 1) _ t hq ?_ ?_ ?_); exact rfl; exact rfl; intro W hnew ho; replace hr := hr.only ho (by omega); replace hq := hnew; replace hb := ho.bel _ _ (by omega) hb))
  refine bodyPost_ret (results_cell_row results39 _ _ (w.heap.size + 1) _ _ _ _ rfl hq underlying41 rfl size_nc) rfl ?_
  exact ⟨rfl, hb⟩
theorem ncheck_any (s : Nc) (ok : s.p.Ok) (w : World) (hO : OffAt w) :
    Calls prog 13 #[.agg s.c] w fun e w' => e = .returned (errR (if mayV s.p = true then 0 else 1)) ∧ Below w.heap.size w w' := by
  have HC : Hid (∀ W, Below w.heap.size w W → Calls prog 29 #[.agg s.p.cells] W fun e w' => e = .returned (errR (if mayV s.p = true then 0 else 1)) ∧ Below W.heap.size W w') := hide (fun W hb => vcheck_any s.p ok W (hO.bl hb))
  generalize mayV s.p = m at *
  clear hO
  cases m with
  | true =>
    rw [show errR (if true = true then 0 else 1) = .nilIface from rfl] at HC ⊢
    go_enter func13, ntmps13
    go_wp2_with (first | ((with_reducible refine bx_nc w.heap.size s ?_ ?_ ?_); exact rfl; exact rfl; intro W hr hb hz) | ((with_reducible refine ld_np w.heap.size s _ hr ?_ ?_ ?_); exact rfl; exact rfl) | (go_at_call 29; (with_reducible refine (HC.out _ hb).mono ?_); rintro e W ⟨rfl, hbc⟩; replace hb := below_bl rfl hb hbc))
    go_ret
    exact ⟨rfl, hb⟩
  | false =>
    rw [show errR (if false = true then 0 else 1) = .iface 82 (.int .i64 1) from rfl] at HC ⊢
    go_enter func13, ntmps13
    go_wp2_with (first | ((with_reducible refine bx_nc w.heap.size s ?_ ?_ ?_); exact rfl; exact rfl; intro W hr hb hz) | ((with_reducible refine ld_np w.heap.size s _ hr ?_ ?_ ?_); exact rfl; exact rfl) | (go_at_call 29; (with_reducible refine (HC.out _ hb).mono ?_); rintro e W ⟨rfl, hbc⟩; replace hb := below_bl rfl hb hbc))
    go_ret
    exact ⟨rfl, hb⟩
end Go.Proofs.YtbggkoahofnnjaaGreatDoor
namespace Go.Proofs.YtbggkoahofnnjaaGreatDoor
open Go.RowKit
set_option maxHeartbeats 2000000
theorem nextV_is {p : Nat} {f : Nat → Nat} {r : Rg} (hr : r.Ok) (h : (nextV p f r).2.2.1 = true) : (nextV p f r).1.Ok ∧ chkR (nextV p f r).1 = true := by
  unfold nextV at h ⊢
  repeat' split
  all_goals first
    | (exfalso; simp_all; done)
    | exact ⟨⟨hr.sz0, hr.sz1, hr.de, hr.av, hr.us, Nat.mod_lt _ (by decide), hr.pu⟩, by assumption⟩
theorem built_cn (r : Rg) (hd : Int) (va : Option Addr) (vn vc : Nat) : prog.built 104 [(0, .agg r.cells), (1, .int .i64 hd), (2, .slice va vn vc)] = some ((⟨r, hd⟩ : Cn).c (.slice va vn vc)) := by kernel_rfl
theorem bd_cn {ops : Array Oper} {rest : List Oper} {dst : Option Tmp} {ty : TypeId} {pos : String} {after : Array Edge} {a : Act} {w : World} {Q : Exit → Act → World → Prop} {x0 x1 x2 : Operand} (r : Rg) (hd : Int) (va : Option Addr) (vn vc : Nat) (h0 : a.eval x0 = .agg r.cells) (h1 : a.eval x1 = .int .i64 hd) (h2 : a.eval x2 = .slice va vn vc)
    (k : wpList prog ops Q rest (a.put dst (.agg ((⟨r, hd⟩ : Cn).c (.slice va vn vc)))) w) : wpList prog ops Q (⟨dst, .build 104 #[(0, x0), (1, x1), (2, x2)], ty, pos, after, none⟩ :: rest) a w := by
  have hp : ((#[(0, x0), (1, x1), (2, x2)] : Array (Nat × Operand)).map fun (i, x) => (i, a.eval x)).toList = [(0, .agg r.cells), (1, .int .i64 hd), (2, .slice va vn vc)] := by
    simp [h0, h1, h2]
  refine wpList_build rfl 104 _ rfl ?_ ?_
  · rw [hp, built_cn]; rfl
  · rw [hp, built_cn]; exact k
theorem nnext_err (r : Rg) (hr0 : r.Ok) {w : World} {B b p c : Nat} {f : Nat → Nat} {O : Nat → Prop} (h : RamB w B b p f c O) (hA : AreasAt w) (hG : 2 < B) (he : (nextV p f r).2.2.2 ≠ 0) : Calls prog 38 #[.agg r.cells, .pointer (some ⟨b, 0, none⟩)] w fun e w' => e = .returned (.tuple #[.agg (zeroCn.c nilS), .bool false, errR (nextV p f r).2.2.2]) ∧ ∃ O', RamB w' B b p f c O' ∧ Went B O O' w w' := by
  have HN : Hid (∀ W O1, RamB W B b p f c O1 → AreasAt W → Calls prog 79 #[.agg r.cells, .pointer (some ⟨b, 0, none⟩)] W fun e w' => e = .returned (.tuple #[.agg (nextV p f r).1.cells, .int .i64 ((nextV p f r).2.1 : Nat), .bool (nextV p f r).2.2.1, errR (nextV p f r).2.2.2]) ∧ ∃ O', RamB w' B b p f c O' ∧ Went B O1 O' W w') := hide (fun W O1 hM hA => rnext_any r hr0 hM hA hG)
  have hE : ∃ z : Int, errR (nextV p f r).2.2.2 = .iface 82 (.int .i64 z) := ⟨_, by unfold errR; rw [if_neg he]⟩
  clear he
  generalize nextV p f r = nv at *
  obtain ⟨r1, h1, is, en⟩ := nv
  simp only at HN hE ⊢
  obtain ⟨z, hz⟩ := hE
  rw [hz] at HN ⊢
  clear hz
  have hB0 := h.base
  have hGw : 2 < w.heap.size := Nat.lt_of_lt_of_le hG hB0
  have hA0 := hA
  clear hA
  go_enter func38, ntmps38
  go_wp2_with (first | ((with_reducible refine bx_rp w.heap.size r ?_ ?_ ?_); exact rfl; exact rfl; intro W hr hb hz) | ((with_reducible refine al_cn (w.heap.size + 1) ?_ ?_); exact hz.out; intro W hq hb' hz'; replace hr := hr.bl (hz.out ▸ hb'); replace hb := hb.trans (hb'.mono (by omega)); replace hz := hz'; have hM := h.bl hb; have hW := Went.of (O := O) hb hB0; have hA := hA0.bl hb; have hF := h.far 2; have hS : w.heap.size + 2 ≤ W.heap.size := Nat.le_of_eq hz.out.symm; have hB : B ≤ W.heap.size := Nat.le_trans hB0 hb.size; clear hb hz hb' hz') | ((with_reducible refine ld_rp w.heap.size r hr ?_ ?_ ?_); exact rfl; exact rfl) | (go_at_call 79; (with_reducible refine (HN.out _ _ hM hA).mono ?_); rintro e W2 ⟨rfl, O2, hM2, hW2⟩; replace hr := hW2.row hr (hF.at 0 (by omega)); replace hq := hW2.row hq (hF.at 1 (by omega)); replace hA := hA.wentR hG hW2; replace hF := hF.went hW2 hS; replace hS := Nat.le_trans hS hW2.size; replace hW := hW.trans hW2; replace hB := Nat.le_trans hB hW2.size; replace hM := hM2; clear hM2 hW2; obtain ⟨NX, hNX0⟩ : ∃ n, W2.heap.size = n := ⟨_, rfl⟩; have hNX := hide hNX0; have hNXx : w.heap.size + 2 ≤ NX := hNX0 ▸ hS; clear hNX0) | ((with_reducible refine al_rp NX ?_ ?_); exact hNX.out; intro W hg hb' hz'; have hbc := hNX.out ▸ hb'; have hgO := (fun e => absurd (hM.lt NX e) (by rw [hNX.out]; omega) : ¬ O2 NX); replace hM := hM.bl hbc; replace hW := hW.bl hbc hB; replace hA := hA.bl hbc; replace hB := Nat.le_trans hB hbc.size; replace hS := Nat.le_trans hS hbc.size; replace hr := hr.bl hbc; replace hq := hq.bl hbc; clear hb' hbc) | ((with_reducible refine st_rp NX _ r1 hg ?_ ?_ ?_); exact rfl; exact rfl; intro W hnew ho; have hOLD := hg; replace hr := hr.only ho (by omega); replace hq := hq.only ho (by omega); replace hM := hM.only ho hgO; replace hA := hA.onlyR ho (by omega); replace hW := hW.only ho (by omega) (by omega); replace hS := (show w.heap.size + 2 ≤ W.heap.size by rw [ho.size]; exact hS); replace hB := (show B ≤ W.heap.size by rw [ho.size]; exact hB); replace hg := hnew; clear hnew ho) | ((with_reducible refine st_cn (w.heap.size + 1) _ _ zeroCn nilS rfl hq ?_ ?_ ?_); exact rfl; exact rfl; intro W hnew ho; replace hg := hg.only ho (by omega); replace hr := hr.only ho (by omega); replace hM := hM.only ho (hF.at 1 (by omega)); replace hA := hA.onlyR ho (by omega); replace hW := hW.only ho (by omega) (by omega); replace hS := (show w.heap.size + 2 ≤ W.heap.size by rw [ho.size]; exact hS); replace hB := (show B ≤ W.heap.size by rw [ho.size]; exact hB); replace hq := hnew; clear hnew ho))
  refine bodyPost_ret (results_cell_two' results38 _ _ (w.heap.size + 1) _ _ _ rfl hq underlying104 rfl size_cn) rfl ?_
  exact ⟨rfl, _, hM, hW⟩
theorem nnext_none (r : Rg) (hr0 : r.Ok) {w : World} {B b p c : Nat} {f : Nat → Nat} {O : Nat → Prop} (h : RamB w B b p f c O) (hA : AreasAt w) (hG : 2 < B) (he : (nextV p f r).2.2.2 = 0) (hi : (nextV p f r).2.2.1 = false) : Calls prog 38 #[.agg r.cells, .pointer (some ⟨b, 0, none⟩)] w fun e w' => e = .returned (.tuple #[.agg (zeroCn.c nilS), .bool false, .nilIface]) ∧ ∃ O', RamB w' B b p f c O' ∧ Went B O O' w w' := by
  have HN : Hid (∀ W O1, RamB W B b p f c O1 → AreasAt W → Calls prog 79 #[.agg r.cells, .pointer (some ⟨b, 0, none⟩)] W fun e w' => e = .returned (.tuple #[.agg (nextV p f r).1.cells, .int .i64 ((nextV p f r).2.1 : Nat), .bool (nextV p f r).2.2.1, errR (nextV p f r).2.2.2]) ∧ ∃ O', RamB w' B b p f c O' ∧ Went B O1 O' W w') := hide (fun W O1 hM hA => rnext_any r hr0 hM hA hG)
  generalize nextV p f r = nv at *
  obtain ⟨r1, h1, is, en⟩ := nv
  simp only at HN he hi
  subst he hi
  rw [show errR 0 = .nilIface from rfl] at HN
  have hB0 := h.base
  have hGw : 2 < w.heap.size := Nat.lt_of_lt_of_le hG hB0
  have hA0 := hA
  clear hA
  go_enter func38, ntmps38
  go_wp2_with (first | ((with_reducible refine bx_rp w.heap.size r ?_ ?_ ?_); exact rfl; exact rfl; intro W hr hb hz) | ((with_reducible refine al_cn (w.heap.size + 1) ?_ ?_); exact hz.out; intro W hq hb' hz'; replace hr := hr.bl (hz.out ▸ hb'); replace hb := hb.trans (hb'.mono (by omega)); replace hz := hz'; have hM := h.bl hb; have hW := Went.of (O := O) hb hB0; have hA := hA0.bl hb; have hF := h.far 2; have hS : w.heap.size + 2 ≤ W.heap.size := Nat.le_of_eq hz.out.symm; have hB : B ≤ W.heap.size := Nat.le_trans hB0 hb.size; clear hb hz hb' hz') | ((with_reducible refine ld_rp w.heap.size r hr ?_ ?_ ?_); exact rfl; exact rfl) | (go_at_call 79; (with_reducible refine (HN.out _ _ hM hA).mono ?_); rintro e W2 ⟨rfl, O2, hM2, hW2⟩; replace hr := hW2.row hr (hF.at 0 (by omega)); replace hq := hW2.row hq (hF.at 1 (by omega)); replace hA := hA.wentR hG hW2; replace hF := hF.went hW2 hS; replace hS := Nat.le_trans hS hW2.size; replace hW := hW.trans hW2; replace hB := Nat.le_trans hB hW2.size; replace hM := hM2; clear hM2 hW2; obtain ⟨NX, hNX0⟩ : ∃ n, W2.heap.size = n := ⟨_, rfl⟩; have hNX := hide hNX0; have hNXx : w.heap.size + 2 ≤ NX := hNX0 ▸ hS; clear hNX0) | ((with_reducible refine al_rp NX ?_ ?_); exact hNX.out; intro W hg hb' hz'; have hbc := hNX.out ▸ hb'; have hgO := (fun e => absurd (hM.lt NX e) (by rw [hNX.out]; omega) : ¬ O2 NX); replace hM := hM.bl hbc; replace hW := hW.bl hbc hB; replace hA := hA.bl hbc; replace hB := Nat.le_trans hB hbc.size; replace hS := Nat.le_trans hS hbc.size; replace hr := hr.bl hbc; replace hq := hq.bl hbc; clear hb' hbc) | ((with_reducible refine st_rp NX _ r1 hg ?_ ?_ ?_); exact rfl; exact rfl; intro W hnew ho; have hOLD := hg; replace hr := hr.only ho (by omega); replace hq := hq.only ho (by omega); replace hM := hM.only ho hgO; replace hA := hA.onlyR ho (by omega); replace hW := hW.only ho (by omega) (by omega); replace hS := (show w.heap.size + 2 ≤ W.heap.size by rw [ho.size]; exact hS); replace hB := (show B ≤ W.heap.size by rw [ho.size]; exact hB); replace hg := hnew; clear hnew ho) | ((with_reducible refine st_cn (w.heap.size + 1) _ _ zeroCn nilS rfl hq ?_ ?_ ?_); exact rfl; exact rfl; intro W hnew ho; replace hg := hg.only ho (by omega); replace hr := hr.only ho (by omega); replace hM := hM.only ho (hF.at 1 (by omega)); replace hA := hA.onlyR ho (by omega); replace hW := hW.only ho (by omega) (by omega); replace hS := (show w.heap.size + 2 ≤ W.heap.size by rw [ho.size]; exact hS); replace hB := (show B ≤ W.heap.size by rw [ho.size]; exact hB); replace hq := hnew; clear hnew ho))
  refine bodyPost_ret (results_cell_two' results38 _ _ (w.heap.size + 1) _ _ _ rfl hq underlying104 rfl size_cn) rfl ?_
  exact ⟨rfl, _, hM, hW⟩
theorem nnext_nw (r : Rg) (hr0 : r.Ok) {w : World} {B b p c : Nat} {f : Nat → Nat} {O : Nat → Prop} (h : RamB w B b p f c O) (hA : AreasAt w) (hG : 2 < B) (he : (nextV p f r).2.2.2 = 0) (hi : (nextV p f r).2.2.1 = true) (hk : walkV p f (nextV p f r).1 ((nextV p f r).2.1 : Nat) = none) : Calls prog 38 #[.agg r.cells, .pointer (some ⟨b, 0, none⟩)] w fun e w' => e = .returned (.tuple #[.agg (zeroCn.c nilS), .bool false, .iface 82 (.int .i64 22)]) ∧ ∃ O', RamB w' B b p f c O' ∧ Went B O O' w w' := by
  have HN : Hid (∀ W O1, RamB W B b p f c O1 → AreasAt W → Calls prog 79 #[.agg r.cells, .pointer (some ⟨b, 0, none⟩)] W fun e w' => e = .returned (.tuple #[.agg (nextV p f r).1.cells, .int .i64 ((nextV p f r).2.1 : Nat), .bool (nextV p f r).2.2.1, errR (nextV p f r).2.2.2]) ∧ ∃ O', RamB w' B b p f c O' ∧ Went B O1 O' W w') := hide (fun W O1 hM hA => rnext_any r hr0 hM hA hG)
  have HWk : Hid (∀ W O1, RamB W B b p f c O1 → AreasAt W → Calls prog 80 #[.agg (nextV p f r).1.cells, .pointer (some ⟨b, 0, none⟩), .int .i64 ((nextV p f r).2.1 : Nat)] W fun e w' => e = .returned (.tuple #[.slice none 0 0, .iface 82 (.int .i64 22)]) ∧ ∃ O', RamB w' B b p f c O' ∧ Went B O1 O' W w') := hide (fun W O1 hM hA => (walk_all (nextV p f r).1 (nextV_is hr0 hi).1 (nextV_is hr0 hi).2 ((nextV p f r).2.1 : Nat) hM hA hG).mono (by
    rintro e w' ⟨O', h1, h2, ⟨_, rfl⟩ | ⟨ps, v, h3, _⟩⟩
    · exact ⟨rfl, O', h1, h2⟩
    · rw [hk] at h3; cases h3))
  clear hk
  generalize nextV p f r = nv at *
  obtain ⟨r1, h1, is, en⟩ := nv
  simp only at HN HWk he hi
  subst he hi
  rw [show errR 0 = .nilIface from rfl] at HN
  have hB0 := h.base
  have hGw : 2 < w.heap.size := Nat.lt_of_lt_of_le hG hB0
  have hA0 := hA
  clear hA
  go_enter func38, ntmps38
  go_wp2_with (first | ((with_reducible refine bx_rp w.heap.size r ?_ ?_ ?_); exact rfl; exact rfl; intro W hr hb hz) | ((with_reducible refine al_cn (w.heap.size + 1) ?_ ?_); exact hz.out; intro W hq hb' hz'; replace hr := hr.bl (hz.out ▸ hb'); replace hb := hb.trans (hb'.mono (by omega)); replace hz := hz'; have hM := h.bl hb; have hW := Went.of (O := O) hb hB0; have hA := hA0.bl hb; have hF := h.far 2; have hS : w.heap.size + 2 ≤ W.heap.size := Nat.le_of_eq hz.out.symm; have hB : B ≤ W.heap.size := Nat.le_trans hB0 hb.size; clear hb hz hb' hz') | ((with_reducible refine ld_rp w.heap.size r hr ?_ ?_ ?_); exact rfl; exact rfl) | (go_at_call 79; (with_reducible refine (HN.out _ _ hM hA).mono ?_); rintro e W2 ⟨rfl, O2, hM2, hW2⟩; replace hr := hW2.row hr (hF.at 0 (by omega)); replace hq := hW2.row hq (hF.at 1 (by omega)); replace hA := hA.wentR hG hW2; replace hF := hF.went hW2 hS; replace hS := Nat.le_trans hS hW2.size; replace hW := hW.trans hW2; replace hB := Nat.le_trans hB hW2.size; replace hM := hM2; clear hM2 hW2; obtain ⟨NX, hNX0⟩ : ∃ n, W2.heap.size = n := ⟨_, rfl⟩; have hNX := hide hNX0; have hNXx : w.heap.size + 2 ≤ NX := hNX0 ▸ hS; clear hNX0) | ((with_reducible refine al_rp NX ?_ ?_); exact hNX.out; intro W hg hb' hz'; have hbc := hNX.out ▸ hb'; have hgO := (fun e => absurd (hM.lt NX e) (by rw [hNX.out]; omega) : ¬ O2 NX); replace hM := hM.bl hbc; replace hW := hW.bl hbc hB; replace hA := hA.bl hbc; replace hB := Nat.le_trans hB hbc.size; replace hS := Nat.le_trans hS hbc.size; replace hr := hr.bl hbc; replace hq := hq.bl hbc; clear hb' hbc) | ((with_reducible refine st_rp NX _ r1 hg ?_ ?_ ?_); exact rfl; exact rfl; intro W hnew ho; have hOLD := hg; replace hr := hr.only ho (by omega); replace hq := hq.only ho (by omega); replace hM := hM.only ho hgO; replace hA := hA.onlyR ho (by omega); replace hW := hW.only ho (by omega) (by omega); replace hS := (show w.heap.size + 2 ≤ W.heap.size by rw [ho.size]; exact hS); replace hB := (show B ≤ W.heap.size by rw [ho.size]; exact hB); replace hg := hnew; clear hnew ho) | ((with_reducible refine ld_rp NX r1 hg ?_ ?_ ?_); exact rfl; exact rfl) | (go_at_call 80; (with_reducible refine (HWk.out _ _ hM hA).mono ?_); rintro e W2 ⟨rfl, O2, hM2, hW2⟩; (have hNO := hW2.no hg.lt hgO); replace hg := hW2.row hg hgO; (replace hgO := hNO); clear hNO; replace hr := hW2.row hr (hF.at 0 (by omega)); replace hq := hW2.row hq (hF.at 1 (by omega)); replace hA := hA.wentR hG hW2; replace hF := hF.went hW2 hS; replace hS := Nat.le_trans hS hW2.size; replace hW := hW.trans hW2; replace hB := Nat.le_trans hB hW2.size; replace hM := hM2; clear hM2 hW2) | ((with_reducible refine st_cn (w.heap.size + 1) _ _ zeroCn nilS rfl hq ?_ ?_ ?_); exact rfl; exact rfl; intro W hnew ho; replace hg := hg.only ho (by omega); replace hr := hr.only ho (by omega); replace hM := hM.only ho (hF.at 1 (by omega)); replace hA := hA.onlyR ho (by omega); replace hW := hW.only ho (by omega) (by omega); replace hS := (show w.heap.size + 2 ≤ W.heap.size by rw [ho.size]; exact hS); replace hB := (show B ≤ W.heap.size by rw [ho.size]; exact hB); replace hq := hnew; clear hnew ho))
  refine bodyPost_ret (results_cell_two' results38 _ _ (w.heap.size + 1) _ _ _ rfl hq underlying104 rfl size_cn) rfl ?_
  exact ⟨rfl, _, hM, hW⟩
theorem nnext_ok (r : Rg) (hr0 : r.Ok) {w : World} {B b p c : Nat} {f : Nat → Nat} {O : Nat → Prop} (h : RamB w B b p f c O) (hA : AreasAt w) (hG : 2 < B) (he : (nextV p f r).2.2.2 = 0) (hi : (nextV p f r).2.2.1 = true) (ps : List Sg) (hk : walkV p f (nextV p f r).1 ((nextV p f r).2.1 : Nat) = some ps) : Calls prog 38 #[.agg r.cells, .pointer (some ⟨b, 0, none⟩)] w fun e w' => ∃ lv, e = .returned (.tuple #[.agg ((⟨(nextV p f r).1, ((nextV p f r).2.1 : Nat)⟩ : Cn).c lv), .bool true, .nilIface]) ∧ ∃ O', RamB w' B b p f c O' ∧ Went B O O' w w' ∧ w'.ownsRow w.heap.size 193 3 lv ps.length (segL ps) ∧ ∀ g, lv.ownBlock = some g → ¬ O' g := by
  have HN : Hid (∀ W O1, RamB W B b p f c O1 → AreasAt W → Calls prog 79 #[.agg r.cells, .pointer (some ⟨b, 0, none⟩)] W fun e w' => e = .returned (.tuple #[.agg (nextV p f r).1.cells, .int .i64 ((nextV p f r).2.1 : Nat), .bool (nextV p f r).2.2.1, errR (nextV p f r).2.2.2]) ∧ ∃ O', RamB w' B b p f c O' ∧ Went B O1 O' W w') := hide (fun W O1 hM hA => rnext_any r hr0 hM hA hG)
  have HWk : Hid (∀ W O1, RamB W B b p f c O1 → AreasAt W → Calls prog 80 #[.agg (nextV p f r).1.cells, .pointer (some ⟨b, 0, none⟩), .int .i64 ((nextV p f r).2.1 : Nat)] W fun e w' => ∃ lv, e = .returned (.tuple #[lv, .nilIface]) ∧ ∃ O', RamB w' B b p f c O' ∧ Went B O1 O' W w' ∧ w'.ownsRow W.heap.size 193 3 lv ps.length (segL ps) ∧ ∀ g, lv.ownBlock = some g → ¬ O' g) := hide (fun W O1 hM hA => (walk_all (nextV p f r).1 (nextV_is hr0 hi).1 (nextV_is hr0 hi).2 ((nextV p f r).2.1 : Nat) hM hA hG).mono (by
    rintro e w' ⟨O', h1, h2, ⟨h3, _⟩ | ⟨ps', v, h3, rfl, h4, h5⟩⟩
    · rw [hk] at h3; cases h3
    · rw [hk] at h3; cases h3; exact ⟨v, rfl, O', h1, h2, h4, h5⟩))
  clear hk
  generalize nextV p f r = nv at *
  obtain ⟨r1, h1, is, en⟩ := nv
  simp only at HN HWk he hi ⊢
  subst he hi
  rw [show errR 0 = .nilIface from rfl] at HN
  have hB0 := h.base
  have hGw : 2 < w.heap.size := Nat.lt_of_lt_of_le hG hB0
  have hA0 := hA
  clear hA
  go_enter func38, ntmps38
  go_wp2_with (first | ((with_reducible refine bx_rp w.heap.size r ?_ ?_ ?_); exact rfl; exact rfl; intro W hr hb hz) | ((with_reducible refine al_cn (w.heap.size + 1) ?_ ?_); exact hz.out; intro W hq hb' hz'; replace hr := hr.bl (hz.out ▸ hb'); replace hb := hb.trans (hb'.mono (by omega)); replace hz := hz'; have hM := h.bl hb; have hW := Went.of (O := O) hb hB0; have hA := hA0.bl hb; have hF := h.far 2; have hS : w.heap.size + 2 ≤ W.heap.size := Nat.le_of_eq hz.out.symm; have hB : B ≤ W.heap.size := Nat.le_trans hB0 hb.size; clear hb hz hb' hz') | ((with_reducible refine ld_rp w.heap.size r hr ?_ ?_ ?_); exact rfl; exact rfl) | (go_at_call 79; (with_reducible refine (HN.out _ _ hM hA).mono ?_); rintro e W2 ⟨rfl, O2, hM2, hW2⟩; replace hr := hW2.row hr (hF.at 0 (by omega)); replace hq := hW2.row hq (hF.at 1 (by omega)); replace hA := hA.wentR hG hW2; replace hF := hF.went hW2 hS; replace hS := Nat.le_trans hS hW2.size; replace hW := hW.trans hW2; replace hB := Nat.le_trans hB hW2.size; replace hM := hM2; clear hM2 hW2; obtain ⟨NX, hNX0⟩ : ∃ n, W2.heap.size = n := ⟨_, rfl⟩; have hNX := hide hNX0; have hNXx : w.heap.size + 2 ≤ NX := hNX0 ▸ hS; clear hNX0) | ((with_reducible refine al_rp NX ?_ ?_); exact hNX.out; intro W hg hb' hz'; have hbc := hNX.out ▸ hb'; have hgO := (fun e => absurd (hM.lt NX e) (by rw [hNX.out]; omega) : ¬ O2 NX); replace hM := hM.bl hbc; replace hW := hW.bl hbc hB; replace hA := hA.bl hbc; replace hB := Nat.le_trans hB hbc.size; replace hS := Nat.le_trans hS hbc.size; replace hr := hr.bl hbc; replace hq := hq.bl hbc; clear hb' hbc) | ((with_reducible refine st_rp NX _ r1 hg ?_ ?_ ?_); exact rfl; exact rfl; intro W hnew ho; have hOLD := hg; replace hr := hr.only ho (by omega); replace hq := hq.only ho (by omega); replace hM := hM.only ho hgO; replace hA := hA.onlyR ho (by omega); replace hW := hW.only ho (by omega) (by omega); replace hS := (show w.heap.size + 2 ≤ W.heap.size by rw [ho.size]; exact hS); replace hB := (show B ≤ W.heap.size by rw [ho.size]; exact hB); replace hg := hnew; clear hnew ho) | ((with_reducible refine ld_rp NX r1 hg ?_ ?_ ?_); exact rfl; exact rfl) | (go_at_call 80; (with_reducible refine (HWk.out _ _ hM hA).mono ?_); rintro e W2 ⟨lv, rfl, O2, hM2, hW2, hl0, hln⟩; have hl : W2.ownsRow w.heap.size 193 3 lv ps.length (segL ps) := own_lower2 hl0 (by omega); have hlb := fun g e => (hl0.lt g e).1; clear hl0; obtain ⟨lva, lvc, rfl, _, _⟩ := own_form hl; (have hNO := hW2.no hg.lt hgO); replace hg := hW2.row hg hgO; (replace hgO := hNO); clear hNO; replace hr := hW2.row hr (hF.at 0 (by omega)); replace hq := hW2.row hq (hF.at 1 (by omega)); replace hA := hA.wentR hG hW2; replace hF := hF.went hW2 hS; replace hS := Nat.le_trans hS hW2.size; replace hW := hW.trans hW2; replace hB := Nat.le_trans hB hW2.size; replace hM := hM2; clear hM2 hW2) | ((with_reducible refine bd_cn r1 ((h1 : Nat) : Int) lva ps.length lvc ?_ ?_ ?_ ?_); exact rfl; exact rfl; exact rfl) | ((with_reducible refine st_cn (w.heap.size + 1) _ _ ⟨r1, ((h1 : Nat) : Int)⟩ (.slice lva ps.length lvc) (own_one hl) hq ?_ ?_ ?_); exact rfl; exact rfl; intro W hnew ho; replace hl := own_only hl ho (fun e => absurd (own_ty hl e hq) (by decide)); replace hg := hg.only ho (by omega); replace hr := hr.only ho (by omega); replace hM := hM.only ho (hF.at 1 (by omega)); replace hA := hA.onlyR ho (by omega); replace hW := hW.only ho (by omega) (by omega); replace hS := (show w.heap.size + 2 ≤ W.heap.size by rw [ho.size]; exact hS); replace hB := (show B ≤ W.heap.size by rw [ho.size]; exact hB); replace hq := hnew; clear hnew ho))
  refine bodyPost_ret (results_cell_two' results38 _ _ (w.heap.size + 1) _ _ _ rfl hq underlying104 rfl size_cn) rfl ?_
  exact ⟨_, rfl, _, hM, hW, hl, hln⟩
theorem nnext_any (r : Rg) (hr0 : r.Ok) {w : World} {B b p c : Nat} {f : Nat → Nat} {O : Nat → Prop} (h : RamB w B b p f c O) (hA : AreasAt w) (hG : 2 < B) : Calls prog 38 #[.agg r.cells, .pointer (some ⟨b, 0, none⟩)] w fun e w' => ∃ O', RamB w' B b p f c O' ∧ Went B O O' w w' ∧ (((ncNext p f r).2 = none ∧ e = .returned (.tuple #[.agg (zeroCn.c nilS), .bool false, errR (ncNext p f r).1])) ∨ ∃ cn ps lv, ncNext p f r = (0, some (cn, ps)) ∧ PartsOk p ps ∧ e = .returned (.tuple #[.agg (cn.c lv), .bool true, .nilIface]) ∧ w'.ownsRow w.heap.size 193 3 lv ps.length (segL ps) ∧ ∀ g, lv.ownBlock = some g → ¬ O' g) := by
  unfold ncNext
  by_cases he : (nextV p f r).2.2.2 = 0
  · rw [if_pos he]
    cases hi : (nextV p f r).2.2.1 with
    | false =>
      rw [if_neg (by decide)]
      refine (nnext_none r hr0 h hA hG he hi).mono ?_
      rintro e w' ⟨rfl, O', h1, h2⟩
      exact ⟨O', h1, h2, .inl ⟨rfl, rfl⟩⟩
    | true =>
      rw [if_pos rfl]
      cases hk : walkV p f (nextV p f r).1 ((nextV p f r).2.1 : Nat) with
      | none =>
        refine (nnext_nw r hr0 h hA hG he hi hk).mono ?_
        rintro e w' ⟨rfl, O', h1, h2⟩
        exact ⟨O', h1, h2, .inl ⟨rfl, rfl⟩⟩
      | some ps =>
        have hP := walk_parts h.small (nextV_is hr0 hi).2 hk
        refine (nnext_ok r hr0 h hA hG he hi ps hk).mono ?_
        rintro e w' ⟨lv, rfl, O', h1, h2, h3, h4⟩
        exact ⟨O', h1, h2, .inr ⟨_, ps, lv, rfl, hP, rfl, h3, h4⟩⟩
  · rw [if_neg he]
    refine (nnext_err r hr0 h hA hG he).mono ?_
    rintro e w' ⟨rfl, O', h1, h2⟩
    exact ⟨O', h1, h2, .inl ⟨rfl, rfl⟩⟩
end Go.Proofs.YtbggkoahofnnjaaGreatDoor
namespace Go.Proofs.YtbggkoahofnnjaaGreatDoor
open Go.RowKit
set_option maxHeartbeats 2000000
structure FrAt (w : World) (B : Nat) (O : Nat → Prop) (fr : List Nat) (dv : Value) : Prop where
  ex : ∃ g cap all, dv = .slice (some ⟨g, 12, none⟩) (all.length - 12) (cap - 12) ∧ all.length ≤ cap ∧ w.ownsRow B 5 1 (.slice (some ⟨g, 0, none⟩) all.length cap) all.length (byteV all) ∧ 12 < all.length ∧ fr = all.drop 12 ∧ ¬ O g ∧ ∀ y ∈ all, y < 256
theorem nframe_no (cn : Cn) (ps : List Sg) {lv : Value} {Bl : Nat} {w : World} {B b p c : Nat} {f : Nat → Nat} {O : Nat → Prop} (h : RamB w B b p f c O) (hA : AreasAt w) (hG : 2 < B) (hL : w.ownsRow Bl 193 3 lv ps.length (segL ps)) (hP : PartsOk p ps) (hfr : ncFrame f ps = none) : Calls prog 40 #[.agg (cn.c lv), .pointer (some ⟨b, 0, none⟩)] w fun e w' => e = .returned (.tuple #[.slice none 0 0, .iface 82 (.int .i64 2)]) ∧ ∃ O', RamB w' B b p f c O' ∧ Went B O O' w w' := by
  obtain ⟨R0, R1⟩ := hP.rooms false
  have HR : Hid (∀ W, W.ownsRow Bl 193 3 lv ps.length (segL ps) → Calls prog 54 #[lv] W fun e w' => e = .returned (.tuple #[.int .i64 (sumR false ps : Nat), .int .i64 (roomV true 0 ps)]) ∧ Below W.heap.size W w') := hide (fun W hL => by have := room_any ps (by have := hP.len; omega) (fun g hg => (hP.ok g hg).1) hL; rw [R0] at this; exact this)
  have hq : isFr ((sumR false ps : Nat) - 12 : Int) = false := by
    unfold ncFrame at hfr
    rw [R0] at hfr
    cases h : isFr ((sumR false ps : Nat) - 12 : Int) with
    | false => rfl
    | true => rw [h] at hfr; simp at hfr
  clear hfr hP R0
  generalize sumR false ps = R at *
  generalize roomV true 0 ps = RT at *
  have HI : Hid (∀ W, Calls prog 51 #[.int .i64 ((R : Int) - 12)] W fun e w' => e = .returned (.bool false) ∧ w' = W) := hide (fun W => by have := isfr_any ((R : Int) - 12) W; rw [hq] at this; exact this)
  clear hq
  have e1 : IntKind.i64.wrap ((R : Int) - 12) = (R : Int) - 12 := by rw [IntKind.wrap_i64]; omega
  have e2 : wrap64 ((R : Int) - 12) = (R : Int) - 12 := by unfold wrap64; omega
  have hB0 := h.base
  have hGw : 2 < w.heap.size := Nat.lt_of_lt_of_le hG hB0
  have hA0 := hA
  clear hA
  go_enter func40, ntmps40
  go_wp2_with (first | ((with_reducible refine bx_cn w.heap.size cn lv ?_ ?_ ?_); exact rfl; exact rfl; intro W hk hb hz; have hM := h.bl hb; have hW := Went.of (O := O) hb hB0; have hA := hA0.bl hb; have hF := h.far 1; have hS : w.heap.size + 1 ≤ W.heap.size := Nat.le_of_eq hz.out.symm; have hB : B ≤ W.heap.size := Nat.le_trans hB0 hb.size; replace hL := own_bel hL hb; clear hb hz) | ((with_reducible refine ld_cps w.heap.size cn lv _ hk ?_ ?_ ?_); exact rfl; exact rfl) | (go_at_call 54; (with_reducible refine (HR.out _ hL).mono ?_); rintro e W ⟨rfl, hbc⟩; replace hM := hM.bl hbc; replace hW := hW.bl hbc hB; replace hA := hA.bl hbc; replace hB := Nat.le_trans hB hbc.size; replace hS := Nat.le_trans hS hbc.size; replace hk := hk.bl hbc; replace hL := own_bel hL hbc) | (go_at_call 51; (with_reducible refine (HI.out _).mono ?_); rintro e W2 ⟨rfl, rfl⟩))
  go_ret2
  exact ⟨rfl, _, hM, hW⟩
theorem nframe_ok (cn : Cn) (ps : List Sg) {lv : Value} {Bl : Nat} {w : World} {B b p c : Nat} {f : Nat → Nat} {O : Nat → Prop} (h : RamB w B b p f c O) (hA : AreasAt w) (hG : 2 < B) (hL : w.ownsRow Bl 193 3 lv ps.length (segL ps)) (hP : PartsOk p ps) (fr : List Nat) (hfr : ncFrame f ps = some fr) : Calls prog 40 #[.agg (cn.c lv), .pointer (some ⟨b, 0, none⟩)] w fun e w' => ∃ dv, e = .returned (.tuple #[dv, .nilIface]) ∧ ∃ O', RamB w' B b p f c O' ∧ Went B O O' w w' ∧ FrAt w' w.heap.size O' fr dv := by
  obtain ⟨R0, R1⟩ := hP.rooms false
  have HR : Hid (∀ W, W.ownsRow Bl 193 3 lv ps.length (segL ps) → Calls prog 54 #[lv] W fun e w' => e = .returned (.tuple #[.int .i64 (sumR false ps : Nat), .int .i64 (roomV true 0 ps)]) ∧ Below W.heap.size W w') := hide (fun W hL => by have := room_any ps (by have := hP.len; omega) (fun g hg => (hP.ok g hg).1) hL; rw [R0] at this; exact this)
  have hq : isFr ((sumR false ps : Nat) - 12 : Int) = true ∧ fr = (gathF f (partsV false 9223372036854775807 ps)).drop 12 := by
    unfold ncFrame at hfr
    rw [R0] at hfr
    cases h : isFr ((sumR false ps : Nat) - 12 : Int) with
    | false => rw [h] at hfr; simp at hfr
    | true => rw [h] at hfr; simp at hfr; exact ⟨rfl, hfr.symm⟩
  obtain ⟨hq, rfl⟩ := hq
  clear hfr
  have hgl : (gathF f (partsV false 9223372036854775807 ps)).length = sumR false ps := gath_len f ps 9223372036854775807 (fun s hs => (hP.ok s hs).2) (by omega)
  have hgs := hide (gathF_small h.small (partsV false 9223372036854775807 ps))
  have HG : Hid (∀ W O1, RamB W B b p f c O1 → AreasAt W → W.ownsRow Bl 193 3 lv ps.length (segL ps) → Calls prog 82 #[.pointer (some ⟨b, 0, none⟩), lv] W fun e w' => ∃ O' v', e = .returned (.tuple #[v', .nilIface]) ∧ RamB w' B b p f c O' ∧ Went B O1 O' W w' ∧ w'.ownsRow W.heap.size 5 1 v' (sumR false ps) (byteV (gathF f (partsV false 9223372036854775807 ps))) ∧ ∀ g, v'.ownBlock = some g → ¬ O' g) := hide (fun W O1 hM hA hL => by
    have := gath_ok ps (by have := hP.len; omega) (fun g hg => (hP.ok g hg).1) hM hA hG hL (parts_inS false ps _ hP.ins)
    rw [hgl] at this
    exact this)
  clear hP R0
  have HGL := hide hgl
  clear hgl
  generalize gathF f (partsV false 9223372036854775807 ps) = all at *
  generalize sumR false ps = R at *
  generalize roomV true 0 ps = RT at *
  have HI : Hid (∀ W, Calls prog 51 #[.int .i64 ((R : Int) - 12)] W fun e w' => e = .returned (.bool true) ∧ w' = W) := hide (fun W => by have := isfr_any ((R : Int) - 12) W; rw [hq] at this; exact this)
  simp only [isFr, Bool.and_eq_true, decide_eq_true_eq] at hq
  obtain ⟨q1, q2⟩ := hq
  have q3 : 13 ≤ R := by omega
  clear q1
  have e1 : IntKind.i64.wrap ((R : Int) - 12) = (R : Int) - 12 := by rw [IntKind.wrap_i64]; omega
  have e2 : wrap64 ((R : Int) - 12) = (R : Int) - 12 := by unfold wrap64; omega
  have hB0 := h.base
  have hGw : 2 < w.heap.size := Nat.lt_of_lt_of_le hG hB0
  have hA0 := hA
  clear hA
  go_enter func40, ntmps40
  go_wp2_with (first | ((with_reducible refine bx_cn w.heap.size cn lv ?_ ?_ ?_); exact rfl; exact rfl; intro W hk hb hz; have hM := h.bl hb; have hW := Went.of (O := O) hb hB0; have hA := hA0.bl hb; have hF := h.far 1; have hS : w.heap.size + 1 ≤ W.heap.size := Nat.le_of_eq hz.out.symm; have hB : B ≤ W.heap.size := Nat.le_trans hB0 hb.size; replace hL := own_bel hL hb; clear hb hz) | ((with_reducible refine ld_cps w.heap.size cn lv _ hk ?_ ?_ ?_); exact rfl; exact rfl) | (go_at_call 54; (with_reducible refine (HR.out _ hL).mono ?_); rintro e W ⟨rfl, hbc⟩; replace hM := hM.bl hbc; replace hW := hW.bl hbc hB; replace hA := hA.bl hbc; replace hB := Nat.le_trans hB hbc.size; replace hS := Nat.le_trans hS hbc.size; replace hk := hk.bl hbc; replace hL := own_bel hL hbc) | (go_at_call 51; (with_reducible refine (HI.out _).mono ?_); rintro e W2 ⟨rfl, rfl⟩) | (go_at_call 82; (with_reducible refine (HG.out _ _ hM hA hL).mono ?_); rintro e W2 ⟨O2, gv, rfl, hM2, hW2, hY, hYn⟩; replace hY := own_lower2 hY (show w.heap.size ≤ _ by omega); obtain ⟨gb, gc, gcur, rfl, hg1, hg2, _, _, _, _⟩ := own_row hY (show 0 < R by omega); (have i1 : (12 : Int) ≤ (R : Int) := by omega); (have i2 : ¬ (gc : Int) = 12 := by omega); (have i3 : ¬ gc = 12 := by omega); clear hL; replace hk := hW2.row hk (hF.at 0 (by omega)); replace hA := hA.wentR hG hW2; replace hF := hF.went hW2 hS; replace hS := Nat.le_trans hS hW2.size; replace hW := hW.trans hW2; replace hB := Nat.le_trans hB hW2.size; replace hM := hM2; clear hM2 hW2))
  go_ret2
  have hl := HGL.out
  refine ⟨_, rfl, _, hM, hW, ⟨gb, gc, all, ?_, by omega, by rw [hl]; exact hY, by omega, rfl, hYn gb rfl, hgs.out⟩⟩
  rw [hl]
  first | rfl | (congr 1 <;> omega)
end Go.Proofs.YtbggkoahofnnjaaGreatDoor
namespace Go.Proofs.YtbggkoahofnnjaaGreatDoor
open Go.RowKit
structure FrsAt (w : World) (B : Nat) (O : Nat → Prop) (ov : Value) (l : List (List Nat × Value)) : Prop where
  row : w.ownsRow B 60 1 ov l.length (l.map (·.2))
  dat : ∀ x ∈ l, FrAt w B O x.1 x.2
  far : ∀ g, ov.ownBlock = some g → ¬ O g
theorem FrAt.one {w : World} {B : Nat} {O : Nat → Prop} {k : List Nat} {dv : Value} (h : FrAt w B O k dv) : dv.oneCell' = true := by
  obtain ⟨_, _, _, rfl, _⟩ := h.ex; rfl
theorem FrAt.keep {w W : World} {B : Nat} {O O' : Nat → Prop} {k : List Nat} {dv : Value} (h : FrAt w B O k dv) (hk : ∀ g cs, RowAt w g cs 5 → ¬ O g → W.heap[g]? = w.heap[g]? ∧ ¬ O' g) : FrAt W B O' k dv := by
  obtain ⟨g, cap, all, e1, e0, e2, e3, e4, e5, e6⟩ := h.ex
  obtain ⟨g', cap', cur, hve, _, _, _, hr, _, _⟩ := own_row e2 (by omega)
  injection hve with q1 q2 q3
  cases q1
  obtain ⟨k1, k2⟩ := hk g cur hr e5
  exact ⟨g, cap, all, e1, e0, own_at e2 (fun x hx => by cases hx; exact k1), e3, e4, k2, e6⟩
theorem FrAt.lower {w : World} {B B' : Nat} {O : Nat → Prop} {k : List Nat} {dv : Value} (h : FrAt w B O k dv) (hB : B' ≤ B) : FrAt w B' O k dv := by
  obtain ⟨g, cap, all, e1, e0, e2, e3⟩ := h.ex
  exact ⟨g, cap, all, e1, e0, own_lower2 e2 hB, e3⟩
theorem FrAt.bl {w W : World} {B : Nat} {O : Nat → Prop} {k : List Nat} {dv : Value} (h : FrAt w B O k dv) (hb : Below w.heap.size w W) : FrAt W B O k dv := h.keep (fun g cs hr hn => ⟨hb.block g hr.lt, hn⟩)
theorem FrsAt.rowT {w : World} {B : Nat} {O : Nat → Prop} {ov : Value} {l : List (List Nat × Value)} (h : FrsAt w B O ov l) : ∀ g, ov.ownBlock = some g → ∃ cs, RowAt w g cs 60 := fun g hg => by
  rcases h.row.2 with ⟨h1, _⟩ | ⟨g', cap, cur, h1, _, h3, _⟩
  · rw [h1] at hg; cases hg
  · rw [h1] at hg; cases hg; exact ⟨cur, h3⟩
theorem FrsAt.keep {w W : World} {B : Nat} {O O' : Nat → Prop} {ov : Value} {l : List (List Nat × Value)} (h : FrsAt w B O ov l) (hk : ∀ g cs t, RowAt w g cs t → (t = 5 ∨ t = 60) → ¬ O g → W.heap[g]? = w.heap[g]? ∧ ¬ O' g) : FrsAt W B O' ov l := by
  refine ⟨own_at h.row (fun g hg => ?_), fun x hx => (h.dat x hx).keep (fun g cs hr hn => hk g cs _ hr (.inl rfl) hn), fun g hg => ?_⟩
  · obtain ⟨cs, hr⟩ := h.rowT g hg
    exact (hk g cs _ hr (.inr rfl) (h.far g hg)).1
  · obtain ⟨cs, hr⟩ := h.rowT g hg
    exact (hk g cs _ hr (.inr rfl) (h.far g hg)).2
theorem FrsAt.bl {w W : World} {B : Nat} {O : Nat → Prop} {ov : Value} {l : List (List Nat × Value)} (h : FrsAt w B O ov l) (hb : Below w.heap.size w W) : FrsAt W B O ov l :=
  h.keep (fun g cs t hr _ hn => ⟨hb.block g hr.lt, hn⟩)
theorem FrsAt.wentX {w W : World} {B Bm : Nat} {O O' : Nat → Prop} {ov : Value} {l : List (List Nat × Value)} (h : FrsAt w B O ov l) (hw : Went Bm O O' w W) : FrsAt W B O' ov l :=
  h.keep (fun g cs t hr _ hn => ⟨hw.other g hr.lt hn, hw.no hr.lt hn⟩)
theorem FrsAt.only {w W : World} {B g : Nat} {O : Nat → Prop} {ov : Value} {l : List (List Nat × Value)} {cs : Array Value} {t : TypeId} (h : FrsAt w B O ov l) (ho : Only g w W) (hr : RowAt w g cs t) (h1 : t ≠ 5) (h2 : t ≠ 60) : FrsAt W B O ov l :=
  h.keep (fun x cx tx hx ht hn => ⟨ho.row x (fun e => by
    subst e
    have := hr.symm.trans hx
    simp at this
    rcases ht with q | q
    · exact h1 (this.2.trans q)
    · exact h2 (this.2.trans q)), hn⟩)
theorem FrsAt.lower {w : World} {B B' : Nat} {O : Nat → Prop} {ov : Value} {l : List (List Nat × Value)} (h : FrsAt w B O ov l) (hB : B' ≤ B) : FrsAt w B' O ov l :=
  ⟨own_lower2 h.row hB, fun x hx => (h.dat x hx).lower hB, h.far⟩
theorem FrsAt.nil (w : World) (B : Nat) (O : Nat → Prop) : FrsAt w B O (.slice none 0 0) [] :=
  ⟨World.ownsRow_nil _ _ _ _, (fun x hx => by cases hx), (fun g hg => by cases hg)⟩
theorem FrsAt.app {w W : World} {B : Nat} {O : Nat → Prop} {ov ov' dv : Value} {l : List (List Nat × Value)} {fr : List Nat} (h : FrsAt w B O ov l) (hr : W.ownsRow B 60 1 ov' (l.length + 1) ((l ++ [(fr, dv)]).map (·.2))) (hg : w.grownBy W ov.ownBlock) (hbk : ov'.ownBlock = ov.ownBlock ∨ ov'.ownBlock = some w.heap.size) (hO : ∀ x, O x → x < w.heap.size) (hd : FrAt w B O fr dv) : FrsAt W B O ov' (l ++ [(fr, dv)]) := by
  have hkeep : ∀ g cs, RowAt w g cs 5 → W.heap[g]? = w.heap[g]? := fun g cs hr => hg.block g hr.lt (fun k => by
    have := own_ty h.row k.symm hr
    exact absurd this (by decide))
  refine ⟨by rw [List.length_append]; exact hr, fun x hx => ?_, fun g e => ?_⟩
  · rcases List.mem_append.1 hx with h1 | h1
    · exact (h.dat x h1).keep (fun g cs hr hn => ⟨hkeep g cs hr, hn⟩)
    · rw [List.mem_singleton.1 h1]; exact hd.keep (fun g cs hr hn => ⟨hkeep g cs hr, hn⟩)
  · rcases hbk with k | k
    · exact h.far g (k ▸ e)
    · rw [k] at e; cases e; exact fun k => absurd (hO _ k) (by omega)
theorem info_sb : ∃ i, prog.info? 60 = some i ∧ i.zero = some (.slice none 0 0) ∧ i.size = 1 ∧ i.bytes = 24 := info_parts (P := prog) (e := 60) (z := .slice none 0 0) (size := 1) (bytes := 24) (by kernel_rfl)
variable {ops : Array Oper} {rest : List Oper} {dst : Option Tmp} {ty : TypeId} {pos : String} {after : Array Edge} {a : Act} {w : World} {Q : Exit → Act → World → Prop} {x y : Operand} {B : Nat} {O : Nat → Prop} {ov dv : Value} {l : List (List Nat × Value)} {fr : List Nat}
theorem bs_fr (N : Nat) (hN : w.heap.size = N) (da : Option Addr) (dn dc : Nat) (hx : a.eval x = .slice da dn dc)
    (k : ∀ W, RowAt W N #[.slice da dn dc] 60 → Below N w W → Hid (W.heap.size = N + 1) → wpList prog ops Q rest (a.put dst (.slice (some ⟨N, 0, none⟩) 1 1)) W) :
    wpList prog ops Q (⟨dst, .buildSlice 66 1 #[(0, x)], ty, pos, after, none⟩ :: rest) a w :=
  op_bsn 66 60 1 underlying66 #[.slice da dn dc] N hN [(0, .slice da dn dc)] (by simp [hx]) ⟨by kernel_rfl⟩ k
theorem app_fr (h : FrsAt w B O ov l) (hd : FrAt w B O fr dv) (s : Nat) (hs : RowAt w s #[dv] 60) (hl : l.length ≤ 1000) (hB : B ≤ w.heap.size) (hO : ∀ x, O x → x < w.heap.size) (hx : a.eval x = ov) (hy : a.eval y = .slice (some ⟨s, 0, none⟩) 1 1)
    (k : ∀ W ov', FrsAt W B O ov' (l ++ [(fr, dv)]) → w.grownBy W ov.ownBlock → wpList prog ops Q rest (a.put dst ov') W) :
    wpList prog ops Q (⟨dst, .call { callee := .builtin .append, args := #[x, y], argTypes := #[66, 66] }, 66, pos, after, none⟩ :: rest) a w := by
  obtain ⟨i, h1, h2, h3, h4⟩ := info_sb
  refine op_appl 66 60 i _ 1 24 underlying66 h1 h2 h3 h4 rfl (by decide) h.row ⟨s, 0, none⟩ 1 1 [dv] rfl ?_ (fun u hu => by rw [List.mem_singleton.1 hu]; exact hd.one) (by unfold maxLen; omega) (by omega) hB hx hy ?_
  · intro j u hu
    have hj0 : j < 1 := by have := (List.getElem?_eq_some_iff.1 hu).1; simpa using this
    (obtain rfl : j = 0 := by omega)
    rw [Addr.add_lit, Nat.zero_add, hs.cell 0]
    simpa using hu
  · intro W v' q1 q2 q3
    exact k W v' (h.app (by rw [List.map_append]; exact q1) q2 q3 hO hd) q2
end Go.Proofs.YtbggkoahofnnjaaGreatDoor
namespace Go.Proofs.YtbggkoahofnnjaaGreatDoor
open Go.RowKit
theorem ir_or1 : ∀ n, n ≤ 3 → n ||| 1 ≤ 3 := by decide
theorem mayV_used {s : V} (h : mayV s = true) : mayV (usedV s) = true := by
  rw [mayV_iff] at h ⊢
  exact ⟨h.st, ir_or1 _ h.ir, h.se, h.q0, h.q1⟩
structure RgSame (r r' : Rg) : Prop where
  sz : r'.sz = r.sz
  de : r'.de = r.de
  av : r'.av = r.av
  us : r'.us = r.us
theorem RgSame.refl (r : Rg) : RgSame r r := ⟨rfl, rfl, rfl, rfl⟩
theorem RgSame.trans {a b c : Rg} (h : RgSame a b) (k : RgSame b c) : RgSame a c := ⟨k.sz.trans h.sz, k.de.trans h.de, k.av.trans h.av, k.us.trans h.us⟩
theorem RgSame.chk {a b : Rg} (h : RgSame a b) : chkR b = chkR a := by unfold chkR alR; rw [h.sz, h.de, h.av, h.us]
theorem mayQ_same {q : Qu} {r : Rg} (h : mayQ q = true) (k : RgSame q.r r) : mayQ (q.rw' r) = true := by
  show (if q.rd = true then chkR r else (decide (0 ≤ r.sz) && decide (r.sz ≤ 256))) = true
  rw [k.chk, k.sz]
  exact h
theorem next_same {p : Nat} {f : Nat → Nat} {r : Rg} {e : Nat} {c : Cn} {l : List Sg} (h : ncNext p f r = (e, some (c, l))) (hr : r.Ok) : RgSame r c.r ∧ c.r.Ok ∧ chkR c.r = true := by
  have hv : (nextV p f r).2.2.1 = true → RgSame r (nextV p f r).1 ∧ (nextV p f r).1.Ok ∧ chkR (nextV p f r).1 = true := by
    unfold nextV
    repeat' split
    all_goals intro q
    all_goals first
      | (exfalso; simp at q; done)
      | exact ⟨⟨rfl, rfl, rfl, rfl⟩, ⟨hr.sz0, hr.sz1, hr.de, hr.av, hr.us, Nat.mod_lt _ (by decide), hr.pu⟩, by assumption⟩
  unfold ncNext at h
  split at h
  · split at h
    · rename_i q
      split at h
      · cases h
      · cases h; exact hv q
    · cases h
  · cases h
theorem give_same {p : Nat} {f : Nat → Nat} {r r' : Rg} {hd : Int} {n : Nat} (e : (giveV p f r hd n).2 = some r') : RgSame r r' := by
  unfold giveV at e
  repeat' split at e
  all_goals first
    | (cases e; exact ⟨rfl, rfl, rfl, rfl⟩)
    | cases e
theorem qw_q (s : V) (i : Nat) (q : Qu) (hi : i < 2) : (s.qw i q).q i = q := by
  rcases (show i = 0 ∨ i = 1 by omega) with rfl | rfl <;> rfl
theorem qw_ok {s : V} (h : s.Ok) (i : Nat) {q : Qu} (hq : q.r.Ok) : (s.qw i q).Ok := by
  unfold V.qw
  split
  · exact ⟨h.st, h.fs, h.ds, h.se, h.ir, h.d0, h.d1, hq, h.q1⟩
  · exact ⟨h.st, h.fs, h.ds, h.se, h.ir, h.d0, h.d1, h.q0, hq⟩
theorem usedV_ok {s : V} (h : s.Ok) : (usedV s).Ok := ⟨h.st, h.fs, h.ds, h.se, or_lt32 h.ir (by decide), h.d0, h.d1, h.q0, h.q1⟩
theorem ans_keep {p : Nat} {f : Nat → Nat} {s : V} {q : Nat} {c : Cn} {l : List Sg} {b : List Nat} (hq : q < 2) (ok : s.Ok) (hc : c.r.Ok) : (ncAns p f s q c l b).2.1.Ok ∧ (mayV s = true → RgSame (s.q q).r c.r → mayV (ncAns p f s q c l b).2.1 = true) := by
  have o1 := qw_ok ok q (q := (s.q q).rw' c.r) hc
  have m1 : mayV s = true → RgSame (s.q q).r c.r → mayV (s.qw q ((s.q q).rw' c.r)) = true := fun h k => by
    rw [mayV_iff] at h ⊢
    exact mayV_qw h q (mayQ_same (mayV_q h q) k)
  unfold ncAns
  split
  · split
    · exact ⟨failV_ok o1, fun h k => mayV_fail (m1 h k)⟩
    · rename_i r hg
      have hro := givenR_ok hc hg
      refine ⟨usedV_ok (qw_ok o1 q hro), fun h k => mayV_used ?_⟩
      have h1 := m1 h k
      rw [mayV_iff] at h1 ⊢
      refine mayV_qw h1 q (mayQ_same (mayV_q h1 q) ?_)
      rw [qw_q _ _ _ hq]
      exact give_same hg
  · exact ⟨failV_ok o1, fun h k => mayV_fail (m1 h k)⟩
structure NKept (s t : Nc) : Prop where
  ok : t.Ok
  may : mayV s.p = true → mayV t.p = true
theorem NKept.trans {a b c : Nc} (h : NKept a b) (k : NKept b c) : NKept a c := ⟨k.ok, fun e => k.may (h.may e)⟩
theorem NKept.refl {s : Nc} (ok : s.Ok) : NKept s s := ⟨ok, id⟩
end Go.Proofs.YtbggkoahofnnjaaGreatDoor
namespace Go.Proofs.YtbggkoahofnnjaaGreatDoor
open Go.RowKit
variable {ops : Array Oper} {rest : List Oper} {dst : Option Tmp} {ty : TypeId} {pos : String} {after : Array Edge} {a : Act} {w : World} {Q : Exit → Act → World → Prop} {x y : Operand} {b : Nat} {S : World → Prop} {K : Act → World → Prop} {gd : Option (Nat × Bool)}
theorem size_nf : (prog.info? 33).map (·.size) = some 23 := by kernel_rfl
theorem zero_nf (w : World) : (zeroValue 33).run prog w = .ok (.agg zeroNc.c) w :=
  (zero_of_info (P := prog) (t := 33) (v := .agg zeroNc.c) (n := 23) (by kernel_rfl)).1 w
theorem bx_nf (N : Nat) (h : Nc) (hN : w.heap.size = N) (hx : a.eval x = .agg h.c)
    (k : ∀ W, RowAt W N h.c 33 → Below N w W → Hid (W.heap.size = N + 1) → wpList prog ops Q rest (a.put dst (.pointer (some ⟨N, 0, none⟩))) W) :
    wpList prog ops Q (⟨dst, .box 33 x, ty, pos, after, none⟩ :: rest) a w := op_box N hN h.c hx k
theorem al_nf (N : Nat) (hN : w.heap.size = N)
    (k : ∀ W, RowAt W N zeroNc.c 33 → Below N w W → Hid (W.heap.size = N + 1) → wpList prog ops Q rest (a.put dst (.pointer (some ⟨N, 0, none⟩))) W) :
    wpList prog ops Q (⟨dst, .alloc 33, ty, pos, after, none⟩ :: rest) a w := op_alloc N hN zeroNc.c zero_nf k
theorem ld_nf (b : Nat) (h : Nc) (hr : RowAt w b h.c 33) (hx : a.eval x = .pointer (some ⟨b, 0, none⟩)) (hw : Region.wanted ⟨dst, .load 33 x, ty, pos, after, gd⟩ (yielded ops a.tmps) = true)
    (k : wpList prog ops Q rest (a.put dst (.agg h.c)) w) : wpList prog ops Q (⟨dst, .load 33 x, ty, pos, after, gd⟩ :: rest) a w :=
  BigFrame.wpList_want hw fun K hK => wp_load_row 33 x rfl b hx _ h.c (0, 0) _ hr underlying33 rfl size_nf (hK _ _ k)
theorem st_nf (b : Nat) (old : Nc) (h : Nc) (hr : RowAt w b old.c 33) (hx : a.eval x = .pointer (some ⟨b, 0, none⟩)) (hy : a.eval y = .agg h.c)
    (k : ∀ W, RowAt W b h.c 33 → Only b w W → wpList prog ops Q rest (a.put dst undef) W) : wpList prog ops Q (⟨dst, .store 33 x y, ty, pos, after, none⟩ :: rest) a w :=
  op_store b hx h.c hy old.c _ hr size_nf rfl h.ones k
theorem y_nf (b : Nat) (h : Nc) (hS : ∀ V, S V → RowAt V b h.c 33) (hx : a.eval x = .pointer (some ⟨b, 0, none⟩)) (hw : Region.wanted ⟨dst, .load 33 x, ty, pos, after, gd⟩ (yielded ops a.tmps) = true) :
    YieldsIf prog ops S ⟨dst, .load 33 x, ty, pos, after, gd⟩ (.agg h.c) a := by
  rcases y_load (ops := ops) (P := prog) (t := 33) (dst := dst) (ty := ty) (after := after) (a := a) (x := x) (pos := pos) (S := S) b h.c _ hS _ underlying33 rfl size_nf hx with ⟨_, h2⟩ | ⟨h1, _⟩
  · exact .inl ⟨hw, fun V hV => h2 V hV⟩
  · simp [Region.wanted] at h1
end Go.Proofs.YtbggkoahofnnjaaGreatDoor
namespace Go.Proofs.YtbggkoahofnnjaaGreatDoor
open Go.RowKit
set_option maxHeartbeats 2000000
theorem built_nc (s : Nc) : prog.built 41 [(0, .agg s.p.cells), (1, .bool s.be), (2, .int .u32 (s.lo : Nat))] = some s.c := by kernel_rfl
theorem y_bdn {ops : Array Oper} {dst : Option Tmp} {ty : TypeId} {pos : String} {after : Array Edge} {a : Act} {S : World → Prop} {x0 x1 x2 : Operand} (s : Nc) (h0 : a.eval x0 = .agg s.p.cells) (h1 : a.eval x1 = .bool s.be) (h2 : a.eval x2 = .int .u32 (s.lo : Nat)) :
    YieldsIf prog ops S ⟨dst, .build 41 #[(0, x0), (1, x1), (2, x2)], ty, pos, after, none⟩ (.agg s.c) a := y_bdv _ s.c (built_nc s) (by simp [h0, h1, h2])
theorem gnic_any (s : Nc) (w : World) : Calls prog 7 #[.agg s.c] w fun e w' => e = .returned (.agg s.c) ∧ Below w.heap.size w w' := by
  have HG := hide (fun w => gport_any s.p w)
  go_enter func7, ntmps7
  go_wp2_with (first | ((with_reducible refine bx_nf w.heap.size s ?_ ?_ ?_); exact rfl; exact rfl; intro W hr hb hz) | ((with_reducible refine al_nc (w.heap.size + 1) ?_ ?_); exact hz.out; intro W hq hb' hz'; replace hr := hr.bl (hz.out ▸ hb'); replace hb := hb.trans (hb'.mono (by omega)); clear hz hb' hz'))
  refine wp_region_held_drew (S := (fun V => RowAt V w.heap.size s.c 33)) (by kernel_rfl) ?_ (fun hHeld => ?_)
  · exact hr.dr
  replace hq := hq.dr
  replace hb := hb.drew
  generalize World.drew _ = V at hHeld hq hb ⊢
  clear hr
  refine tkO 0 (.pointer (some ⟨w.heap.size, 0, none⟩)) (by simp only [gT, gZ]; rfl) (puO (by (intro w hSw; (try dsimp only at hSw); go_simp))) ?_
  simp only [Act.put, pA, pZ, pS]
  refine tkO 1 (.agg s.p.cells) (by simp only [gT, gZ, gS]; rfl) (y_midv w.heap.size 0 s.c s.p.cells _ (fun V hV => hV) (by kernel_rfl) _ underlying31 rfl size_vr rfl) ?_
  simp only [Act.put, pA, pZ, pS]
  refine tkO 3 (.pointer (some ⟨w.heap.size, 21, none⟩)) (by simp only [gT, gZ, gS]; rfl) (puO (by (intro w hSw; (try dsimp only at hSw); go_simp))) ?_
  simp only [Act.put, pA, pZ, pS]
  refine tkO 4 (.bool s.be) (by simp only [gT, gZ, gS]; rfl) (y_cell w.heap.size 21 _ (fun V hV => (RowAt.cell hV 21).trans rfl) _ underlying4 rfl rfl) ?_
  simp only [Act.put, pA, pZ, pS]
  refine tkO 5 (.pointer (some ⟨w.heap.size, 22, none⟩)) (by simp only [gT, gZ, gS]; rfl) (puO (by (intro w hSw; (try dsimp only at hSw); go_simp))) ?_
  simp only [Act.put, pA, pZ, pS]
  refine tkO 6 (.int .u32 (s.lo : Nat)) (by simp only [gT, gZ, gS]; rfl) (y_cell w.heap.size 22 _ (fun V hV => (RowAt.cell hV 22).trans rfl) _ underlying22 rfl rfl) ?_
  simp only [Act.put, pA, pZ, pS]
  refine skO 2 (by simp only [gT, gZ, gS]; rfl) (fun K hK => ?_)
  rw [if_pos (by rfl)]
  go_simp
  (with_reducible refine (HG.out _).mono ?_)
  rintro e V2 ⟨rfl, hbc⟩
  have hH2 := hide (hHeld.bl hbc)
  replace hq := hq.bl hbc
  replace hb := below_bl rfl hb hbc
  clear hHeld hbc
  go_simp
  refine hK.out _ _ ?_ (fun hHeld => ?_)
  · exact hH2.out
  clear hK K
  clear hH2
  refine tkO 7 (.agg s.c) (by simp only [gT, gZ, gS]; rfl) (y_bdn s rfl rfl rfl) ?_
  simp only [Act.put, pA, pZ, pS]
  refine skO 8 (by simp only [gT, gZ, gS]; rfl) (fun K hK => ?_)
  rw [if_pos (by rfl)]
  (with_reducible refine s_nc (w.heap.size + 1) _ s hq ?_ ?_ ?_)
  · exact rfl
  · exact rfl
  intro V3 hnew ho
  have hH2 := hide (hHeld.only ho (by omega))
  replace hb := ho.bel _ _ (by omega) hb
  clear hHeld ho hq
  refine hK.out _ _ ?_ (fun hHeld => ?_)
  · exact hH2.out
  clear hK K
  clear hH2
  refine wpAnyH_done (by kernel_rfl) ?_ _
  go_simp
  go_wp2
  refine bodyPost_ret (results_cell_row results7 _ _ (w.heap.size + 1) _ _ _ _ rfl hnew underlying41 rfl size_nc) rfl ?_
  exact ⟨rfl, hb⟩
end Go.Proofs.YtbggkoahofnnjaaGreatDoor
namespace Go.Proofs.YtbggkoahofnnjaaGreatDoor
open Go.RowKit
set_option maxHeartbeats 1000000
theorem part_np (s : Nc) : s.c.extract 0 21 = s.p.cells := by kernel_rfl
theorem eqn_rg (r : Rg) (w : World) : (Op.equalIn 9996 34 (.agg r.cells) (.agg r.cells)).run prog w = .ok true w := by
  simp [go_sem, Rg.at0, Rg.at1, Rg.at2, Rg.at3, Rg.at4, Rg.at5]
theorem eqn_qu (q : Qu) (w : World) : (Op.equalIn 9997 36 (.agg q.cells) (.agg q.cells)).run prog w = .ok true w := by
  simp [go_sem, part_qr, eqn_rg, Qu.at0]
theorem eqn_qs (s : V) (w : World) : (Op.equalIn 9998 37 (.agg s.qs) (.agg s.qs)).run prog w = .ok true w := by
  obtain ⟨i, hi, h1⟩ := info_qp
  have hc : prog.cellsOf 36 = 7 := by kernel_rfl
  rw [run_equalIn_array w 9997 s.qs s.qs underlying37 hi, hc]
  show (Op.eqItems 9997 36 7 _ _ [0, 1]).run prog w = _
  have p0 : (Go.part 36 s.qs (0 * 7)).run prog w = .ok (.agg s.q0.cells) w := by simp [Go.part, go_sem, part_q0]
  have p1 : (Go.part 36 s.qs (1 * 7)).run prog w = .ok (.agg s.q1.cells) w := by simp [Go.part, go_sem, part_q1]
  simp [Op.eqItems, Sem.run_bind, p0, p1, eqn_qu, Result.andThen_ok]
theorem eqn_drvs (s : V) (w : World) : (Op.equalIn 9998 23 (.agg s.drv) (.agg s.drv)).run prog w = .ok true w := by
  have h := eq_two s.d0 s.d1 s.d0 s.d1 9996 w
  simp only [BEq.rfl, Bool.and_self] at h
  exact h
theorem eqn_v (s : V) (w : World) : (Op.equalIn 9999 39 (.agg s.cells) (.agg s.cells)).run prog w = .ok true w := by
  simp [go_sem, part_drv, part_qs, eqn_drvs, eqn_qs, V.at0, V.at1, V.at2, V.at3, V.at4]
theorem eq_n (s : Nc) (w : World) : (binOp .eql 41 (.agg s.c) (.agg s.c)).run prog w = .ok (.bool true) w := by
  simp [go_sem, part_np, eqn_v, Nc.at21, Nc.at22]
theorem no_guard_n : prog.eqGuardType prog.depth 41 = false := by kernel_rfl
variable {ops : Array Oper} {rest : List Oper} {dst : Option Tmp} {ty t2 : TypeId} {after : Array Edge} {a : Act} {x y : Operand} {gd : Option (Nat × Bool)} {pos : String} {S : World → Prop} {w : World} {Q : Exit → Act → World → Prop} {K : Act → World → Prop}
theorem run_eqn (h : Nc) (hx : a.eval x = .agg h.c) (hy : a.eval y = .agg h.c) (V : World) : (execOp a.eval ⟨dst, .binOp .eql 41 x y t2, ty, pos, after, gd⟩).run prog V = .ok (.value (.bool true)) V := by
  unfold execOp
  simp only [Sem.run_bind, hx, hy, run_eqGuard_agg V .eql 41 x y h.c h.c no_guard_n, eq_n h, Result.andThen_ok, Sem.run_pure]
theorem y_eqn (h : Nc) (hx : a.eval x = .agg h.c) (hy : a.eval y = .agg h.c) (hw : Region.wanted ⟨dst, .binOp .eql 41 x y t2, ty, pos, after, gd⟩ (yielded ops a.tmps) = true) :
    YieldsIf prog ops S ⟨dst, .binOp .eql 41 x y t2, ty, pos, after, gd⟩ (.bool true) a := .inl ⟨hw, fun V hV => run_eqn h hx hy V⟩
end Go.Proofs.YtbggkoahofnnjaaGreatDoor
