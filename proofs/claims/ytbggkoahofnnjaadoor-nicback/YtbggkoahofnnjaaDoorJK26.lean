/-
  What nic's frameOf answers.
-/
import Derived.Test.YtbggkoahofnnjaaDoorJK25
import Derived.Test.YtbggkoahofnnjaaDoorJK8
import Derived.Test.YtbggkoahofnnjaaDoorJK19
namespace Go.Proofs.YtbggkoahofnnjaaDoor
open Go.RowKit
set_option linter.unusedVariables false
set_option linter.unusedSimpArgs false

def lv0 : Nc := ⟨zeroV, true, 0⟩
def lv1 : Nc := ⟨zeroV.stw 15, true, 0⟩
def lv2 : Nc := ⟨(zeroV.stw 15).d1w 1, true, 0⟩
def lvQ : Qu := ⟨true, lR 0 0⟩
variable {ops : Array Oper} {rest : List Oper} {dst : Option Tmp} {ty : TypeId} {pos : String} {after : Array Edge} {a : Act} {w : World} {Q : Exit → Act → World → Prop} {x y : Operand}
theorem st_l1 (b : Nat) (t' : TypeId) (hr : RowAt w b lv0.c t') (hx : a.eval x = .pointer (some ⟨b, 0, none⟩)) (hy : a.eval y = .int .u32 15)
    (k : ∀ W, RowAt W b lv1.c t' → Only b w W → wpList Tryd.prog ops Q rest (a.put dst undef) W) : wpList Tryd.prog ops Q (⟨dst, .store 24 x y, ty, pos, after, none⟩ :: rest) a w :=
  op_store_cell b 0 hx _ hy lv0.c _ _ hr size_u32i (by show 0 < 23; decide) rfl rfl k
theorem st_l2 (b : Nat) (t' : TypeId) (hr : RowAt w b lv1.c t') (hx : a.eval x = .pointer (some ⟨b, 5, none⟩)) (hy : a.eval y = .agg #[.int .u32 0, .int .u32 1])
    (k : ∀ W, RowAt W b lv2.c t' → Only b w W → wpList Tryd.prog ops Q rest (a.put dst undef) W) : wpList Tryd.prog ops Q (⟨dst, .store 32 x y, ty, pos, after, none⟩ :: rest) a w :=
  op_store_mid b 5 hx #[.int .u32 0, .int .u32 1] hy lv1.c _ _ hr size_drv (by show 5 + 2 ≤ 23; decide) (by simp [Value.oneCell']) (by kernel_rfl) k
theorem st_l3_0 (b : Nat) (t' : TypeId) (hr : RowAt w b lv2.c t') (hx : a.eval x = .pointer (some ⟨b, 7, none⟩)) (hy : a.eval y = .agg lvQ.cells)
    (k : ∀ W, RowAt W b (lvS 0).c t' → Only b w W → wpList Tryd.prog ops Q rest (a.put dst undef) W) : wpList Tryd.prog ops Q (⟨dst, .store 38 x y, ty, pos, after, none⟩ :: rest) a w :=
  op_store_mid b 7 hx lvQ.cells hy lv2.c _ _ hr size_qp (by show 7 + 7 ≤ 23; decide) (by kernel_rfl) (by kernel_rfl) k
theorem st_l3_1 (b : Nat) (t' : TypeId) (hr : RowAt w b lv2.c t') (hx : a.eval x = .pointer (some ⟨b, 14, none⟩)) (hy : a.eval y = .agg lvQ.cells)
    (k : ∀ W, RowAt W b (lvS 1).c t' → Only b w W → wpList Tryd.prog ops Q rest (a.put dst undef) W) : wpList Tryd.prog ops Q (⟨dst, .store 38 x y, ty, pos, after, none⟩ :: rest) a w :=
  op_store_mid b 14 hx lvQ.cells hy lv2.c _ _ hr size_qp (by show 14 + 7 ≤ 23; decide) (by kernel_rfl) (by kernel_rfl) k
set_option maxHeartbeats 1000000 in
theorem live_0 (w : World) : Calls Tryd.prog 7 #[.int .i64 0] w fun e w' => e = .returned (.agg (lvS 0).c) ∧ Below w.heap.size w w' := by
  go_enter Tryd.func7, Tryd.ntmps7
  go_wp2_with (first | ((with_reducible refine al_nc w.heap.size ?_ ?_); exact rfl; intro W hq hb hz) | ((with_reducible refine al_nc (w.heap.size + 1) ?_ ?_); exact hz.out; intro W hx hb' hz'; replace hq := hq.bl (hz.out ▸ hb'); replace hb := hb.trans (hb'.mono (by omega)); clear hb' hz') | ((with_reducible refine st_nc (w.heap.size + 1) _ lv0 hx ?_ ?_ ?_); exact rfl; (first | exact rfl | kernel_rfl); intro W hnew ho; replace hq := hq.only ho (by omega); replace hx := hnew; replace hb := ho.bel _ _ (by omega) hb) | ((with_reducible refine st_l1 (w.heap.size + 1) _ hx ?_ ?_ ?_); exact rfl; (first | exact rfl | kernel_rfl); intro W hnew ho; replace hq := hq.only ho (by omega); replace hx := hnew; replace hb := ho.bel _ _ (by omega) hb) | ((with_reducible refine st_l2 (w.heap.size + 1) _ hx ?_ ?_ ?_); exact rfl; (first | exact rfl | kernel_rfl); intro W hnew ho; replace hq := hq.only ho (by omega); replace hx := hnew; replace hb := ho.bel _ _ (by omega) hb) | ((with_reducible refine st_l3_0 (w.heap.size + 1) _ hx ?_ ?_ ?_); exact rfl; (first | exact rfl | kernel_rfl); intro W hnew ho; replace hq := hq.only ho (by omega); replace hx := hnew; replace hb := ho.bel _ _ (by omega) hb) | ((with_reducible refine ld_nc (w.heap.size + 1) (lvS 0) hx ?_ ?_ ?_); exact rfl; exact rfl) | ((with_reducible refine st_nc w.heap.size _ (lvS 0) hq ?_ ?_ ?_); exact rfl; exact rfl; intro W hnew ho; replace hq := hnew; replace hb := ho.bel _ _ (by omega) hb))
  refine bodyPost_ret (results_cell_row Tryd.results7 _ _ w.heap.size _ _ _ _ rfl hq Tryd.underlying43 rfl size_nc) rfl ?_
  exact ⟨rfl, hb⟩
set_option maxHeartbeats 1000000 in
theorem live_1 (w : World) : Calls Tryd.prog 7 #[.int .i64 1] w fun e w' => e = .returned (.agg (lvS 1).c) ∧ Below w.heap.size w w' := by
  go_enter Tryd.func7, Tryd.ntmps7
  go_wp2_with (first | ((with_reducible refine al_nc w.heap.size ?_ ?_); exact rfl; intro W hq hb hz) | ((with_reducible refine al_nc (w.heap.size + 1) ?_ ?_); exact hz.out; intro W hx hb' hz'; replace hq := hq.bl (hz.out ▸ hb'); replace hb := hb.trans (hb'.mono (by omega)); clear hb' hz') | ((with_reducible refine st_nc (w.heap.size + 1) _ lv0 hx ?_ ?_ ?_); exact rfl; (first | exact rfl | kernel_rfl); intro W hnew ho; replace hq := hq.only ho (by omega); replace hx := hnew; replace hb := ho.bel _ _ (by omega) hb) | ((with_reducible refine st_l1 (w.heap.size + 1) _ hx ?_ ?_ ?_); exact rfl; (first | exact rfl | kernel_rfl); intro W hnew ho; replace hq := hq.only ho (by omega); replace hx := hnew; replace hb := ho.bel _ _ (by omega) hb) | ((with_reducible refine st_l2 (w.heap.size + 1) _ hx ?_ ?_ ?_); exact rfl; (first | exact rfl | kernel_rfl); intro W hnew ho; replace hq := hq.only ho (by omega); replace hx := hnew; replace hb := ho.bel _ _ (by omega) hb) | ((with_reducible refine st_l3_1 (w.heap.size + 1) _ hx ?_ ?_ ?_); exact rfl; (first | exact rfl | kernel_rfl); intro W hnew ho; replace hq := hq.only ho (by omega); replace hx := hnew; replace hb := ho.bel _ _ (by omega) hb) | ((with_reducible refine ld_nc (w.heap.size + 1) (lvS 1) hx ?_ ?_ ?_); exact rfl; exact rfl) | ((with_reducible refine st_nc w.heap.size _ (lvS 1) hq ?_ ?_ ?_); exact rfl; exact rfl; intro W hnew ho; replace hq := hnew; replace hb := ho.bel _ _ (by omega) hb))
  refine bodyPost_ret (results_cell_row Tryd.results7 _ _ w.heap.size _ _ _ _ rfl hq Tryd.underlying43 rfl size_nc) rfl ?_
  exact ⟨rfl, hb⟩
end Go.Proofs.YtbggkoahofnnjaaDoor
namespace Go.Proofs.YtbggkoahofnnjaaDoor
open Go.RowKit
set_option linter.unusedVariables false
set_option linter.unusedSimpArgs false

theorem isfr_any (n : Int) (w : World) :
    Calls Tryd.prog 13 #[.int .i64 n] w fun e w' => e = .returned (.bool (isFr n)) ∧ w' = w := by
  unfold isFr
  by_cases h1 : 1 ≤ n
  · have t1 : decide (1 ≤ n) = true := decide_eq_true h1
    rw [t1, Bool.true_and]
    by_cases h2 : n ≤ 1514
    · have t2 : decide (n ≤ 1514) = true := decide_eq_true h2
      rw [t2]
      go_enter Tryd.func13, Tryd.ntmps13
      go_wp2
      go_ret
      exact ⟨rfl, rfl⟩
    · have t2 : decide (n ≤ 1514) = false := decide_eq_false h2
      rw [t2]
      go_enter Tryd.func13, Tryd.ntmps13
      go_wp2
      go_ret
      exact ⟨rfl, rfl⟩
  · have t1 : decide (1 ≤ n) = false := decide_eq_false h1
    rw [t1, Bool.false_and]
    go_enter Tryd.func13, Tryd.ntmps13
    go_wp2
    go_ret
    exact ⟨rfl, rfl⟩
set_option maxHeartbeats 1000000 in
theorem works_0 (s : V) (ok : s.Ok) (w : World) :
    Calls Tryd.prog 14 #[.agg s.cells, .int .i64 0] w fun e w' => e = .returned (.bool (ncWorks s 0)) ∧ Below w.heap.size w w' := by
  have HL := hide (fun w => live_any s ok w)
  have e0 : ncWorks s 0 = (liveV s && s.q0.rd) := rfl
  rw [e0]
  clear e0
  generalize liveV s = l at *
  cases l with
  | true =>
    rw [Bool.true_and]
    go_enter Tryd.func14, Tryd.ntmps14
    go_wp2_with (first | ((with_reducible refine bx_vp w.heap.size s ?_ ?_ ?_); exact rfl; exact rfl; intro W hr hb hz) | ((with_reducible refine ld_vp w.heap.size s hr ?_ ?_ ?_); exact rfl; exact rfl) | (go_at_call 27; (with_reducible refine (HL.out _).mono ?_); rintro e W ⟨rfl, hbc⟩; replace hr := hr.bl hbc; replace hb := below_bl rfl hb hbc) | ((with_reducible refine ld_rd0 w.heap.size s _ hr ?_ ?_ ?_); exact rfl; exact rfl))
    go_ret
    exact ⟨rfl, hb⟩
  | false =>
    rw [Bool.false_and]
    go_enter Tryd.func14, Tryd.ntmps14
    go_wp2_with (first | ((with_reducible refine bx_vp w.heap.size s ?_ ?_ ?_); exact rfl; exact rfl; intro W hr hb hz) | ((with_reducible refine ld_vp w.heap.size s hr ?_ ?_ ?_); exact rfl; exact rfl) | (go_at_call 27; (with_reducible refine (HL.out _).mono ?_); rintro e W ⟨rfl, hbc⟩; replace hr := hr.bl hbc; replace hb := below_bl rfl hb hbc))
    go_ret
    exact ⟨rfl, hb⟩
set_option maxHeartbeats 1000000 in
theorem works_1 (s : V) (ok : s.Ok) (w : World) :
    Calls Tryd.prog 14 #[.agg s.cells, .int .i64 1] w fun e w' => e = .returned (.bool (ncWorks s 1)) ∧ Below w.heap.size w w' := by
  have HL := hide (fun w => live_any s ok w)
  have e0 : ncWorks s 1 = (liveV s && s.q1.rd) := rfl
  rw [e0]
  clear e0
  generalize liveV s = l at *
  cases l with
  | true =>
    rw [Bool.true_and]
    go_enter Tryd.func14, Tryd.ntmps14
    go_wp2_with (first | ((with_reducible refine bx_vp w.heap.size s ?_ ?_ ?_); exact rfl; exact rfl; intro W hr hb hz) | ((with_reducible refine ld_vp w.heap.size s hr ?_ ?_ ?_); exact rfl; exact rfl) | (go_at_call 27; (with_reducible refine (HL.out _).mono ?_); rintro e W ⟨rfl, hbc⟩; replace hr := hr.bl hbc; replace hb := below_bl rfl hb hbc) | ((with_reducible refine ld_rd1 w.heap.size s _ hr ?_ ?_ ?_); exact rfl; exact rfl))
    go_ret
    exact ⟨rfl, hb⟩
  | false =>
    rw [Bool.false_and]
    go_enter Tryd.func14, Tryd.ntmps14
    go_wp2_with (first | ((with_reducible refine bx_vp w.heap.size s ?_ ?_ ?_); exact rfl; exact rfl; intro W hr hb hz) | ((with_reducible refine ld_vp w.heap.size s hr ?_ ?_ ?_); exact rfl; exact rfl) | (go_at_call 27; (with_reducible refine (HL.out _).mono ?_); rintro e W ⟨rfl, hbc⟩; replace hr := hr.bl hbc; replace hb := below_bl rfl hb hbc))
    go_ret
    exact ⟨rfl, hb⟩
set_option maxHeartbeats 1000000 in
theorem failed_any (s : Nc) (ok : s.p.Ok) (w : World) :
    Calls Tryd.prog 17 #[.agg s.c] w fun e w' => e = .returned (.agg s.fail.c) ∧ Below w.heap.size w w' := by
  have HL := hide (fun w => fail_any s.p ok w)
  have e0 : s.fail = s.pw (failV s.p) := rfl
  rw [e0]
  clear e0
  generalize failV s.p = p1 at *
  obtain ⟨t, ht⟩ : ∃ t, s.pw p1 = t := ⟨_, rfl⟩
  have HT := hide ht
  rw [ht]
  clear ht
  go_enter Tryd.func17, Tryd.ntmps17
  go_wp2_with (first | ((with_reducible refine bx_nc w.heap.size s ?_ ?_ ?_); exact rfl; exact rfl; intro W hr hb hz) | ((with_reducible refine al_nc (w.heap.size + 1) ?_ ?_); exact hz.out; intro W hq hb' hz'; replace hr := hr.bl (hz.out ▸ hb'); replace hb := hb.trans (hb'.mono (by omega)); replace hz := hz') | ((with_reducible refine ld_np w.heap.size s _ hr ?_ ?_ ?_); exact rfl; exact rfl) | (go_at_call 30; (with_reducible refine (HL.out _).mono ?_); rintro e W ⟨rfl, hbc⟩; replace hr := hr.bl hbc; replace hq := hq.bl hbc; replace hb := below_bl rfl hb hbc) | ((with_reducible refine st_np w.heap.size s p1 _ hr ?_ ?_ ?_); exact rfl; exact rfl; intro W hnew ho; rw [HT.out] at hnew; replace hq := hq.only ho (by omega); replace hr := hnew; replace hb := ho.bel _ _ (by omega) hb) | ((with_reducible refine ld_nc w.heap.size t hr ?_ ?_ ?_); exact rfl; exact rfl) | ((with_reducible refine st_nc (w.heap.size + 1) _ t hq ?_ ?_ ?_); exact rfl; exact rfl; intro W hnew ho; replace hr := hr.only ho (by omega); replace hq := hnew; replace hb := ho.bel _ _ (by omega) hb))
  refine bodyPost_ret (results_cell_row Tryd.results17 _ _ (w.heap.size + 1) _ _ _ _ rfl hq Tryd.underlying43 rfl size_nc) rfl ?_
  exact ⟨rfl, hb⟩
set_option maxHeartbeats 1000000 in
theorem lost_any (s : Nc) (hs : s.lo < 4294967296) (w : World) :
    Calls Tryd.prog 15 #[.agg s.c] w fun e w' => e = .returned (.agg s.lost.c) ∧ Below w.heap.size w w' := by
  have e1 : IntKind.u32.wrap ((s.lo : Int) + 1) = (((s.lo + 1) % 4294967296 : Nat) : Int) := by rw [IntKind.wrap_u32]; omega
  have e2 : ((s.lo : Int) + 1) % 4294967296 = (((s.lo + 1) % 4294967296 : Nat) : Int) := by omega
  have E1 := hide e1
  have E2 := hide e2
  clear e1 e2
  have e0 : s.lost = s.lw ((s.lo + 1) % 4294967296) := rfl
  rw [e0]
  clear e0
  generalize (s.lo + 1) % 4294967296 = n1 at *
  obtain ⟨t, ht⟩ : ∃ t, s.lw n1 = t := ⟨_, rfl⟩
  have HT := hide ht
  rw [ht]
  clear ht hs
  go_enter Tryd.func15, Tryd.ntmps15
  go_wp2_with (first | ((with_reducible refine bx_nc w.heap.size s ?_ ?_ ?_); exact rfl; exact rfl; intro W hr hb hz) | ((with_reducible refine al_nc (w.heap.size + 1) ?_ ?_); exact hz.out; intro W hq hb' hz'; replace hr := hr.bl (hz.out ▸ hb'); replace hb := hb.trans (hb'.mono (by omega)); replace hz := hz') | ((with_reducible refine ld_nlo w.heap.size s _ hr ?_ ?_ ?_); exact rfl; exact rfl) | ((with_reducible refine st_nlo w.heap.size s n1 _ hr ?_ ?_ ?_); exact rfl; (first | exact congrArg _ E1.out | exact congrArg _ E2.out); intro W hnew ho; rw [HT.out] at hnew; replace hq := hq.only ho (by omega); replace hr := hnew; replace hb := ho.bel _ _ (by omega) hb) | ((with_reducible refine ld_nc w.heap.size t hr ?_ ?_ ?_); exact rfl; exact rfl) | ((with_reducible refine st_nc (w.heap.size + 1) _ t hq ?_ ?_ ?_); exact rfl; exact rfl; intro W hnew ho; replace hr := hr.only ho (by omega); replace hq := hnew; replace hb := ho.bel _ _ (by omega) hb))
  refine bodyPost_ret (results_cell_row Tryd.results15 _ _ (w.heap.size + 1) _ _ _ _ rfl hq Tryd.underlying43 rfl size_nc) rfl ?_
  exact ⟨rfl, hb⟩
end Go.Proofs.YtbggkoahofnnjaaDoor
namespace Go.Proofs.YtbggkoahofnnjaaDoor
open Go.RowKit
set_option linter.unusedVariables false
set_option linter.unusedSimpArgs false

theorem nextV_is {p : Nat} {f : Nat → Nat} {r : Rg} (hr : r.Ok) (h : (nextV p f r).2.2.1 = true) : (nextV p f r).1.Ok ∧ chkR (nextV p f r).1 = true := by
  unfold nextV at h ⊢
  repeat' split
  all_goals first
    | (exfalso; simp_all; done)
    | exact ⟨⟨hr.sz0, hr.sz1, hr.de, hr.av, hr.us, Nat.mod_lt _ (by decide), hr.pu⟩, by assumption⟩
theorem built_cn (r : Rg) (hd : Int) (va : Option Addr) (vn vc : Nat) : Tryd.prog.built 65 [(0, .agg r.cells), (1, .int .i64 hd), (2, .slice va vn vc)] = some ((⟨r, hd⟩ : Cn).c (.slice va vn vc)) := by kernel_rfl
theorem bd_cn {ops : Array Oper} {rest : List Oper} {dst : Option Tmp} {ty : TypeId} {pos : String} {after : Array Edge} {a : Act} {w : World} {Q : Exit → Act → World → Prop} {x0 x1 x2 : Operand} (r : Rg) (hd : Int) (va : Option Addr) (vn vc : Nat) (h0 : a.eval x0 = .agg r.cells) (h1 : a.eval x1 = .int .i64 hd) (h2 : a.eval x2 = .slice va vn vc)
    (k : wpList Tryd.prog ops Q rest (a.put dst (.agg ((⟨r, hd⟩ : Cn).c (.slice va vn vc)))) w) : wpList Tryd.prog ops Q (⟨dst, .build 65 #[(0, x0), (1, x1), (2, x2)], ty, pos, after, none⟩ :: rest) a w := by
  have hp : ((#[(0, x0), (1, x1), (2, x2)] : Array (Nat × Operand)).map fun (i, x) => (i, a.eval x)).toList = [(0, .agg r.cells), (1, .int .i64 hd), (2, .slice va vn vc)] := by
    simp [h0, h1, h2]
  refine wpList_build rfl 65 _ rfl ?_ ?_
  · rw [hp, built_cn]; rfl
  · rw [hp, built_cn]; exact k
set_option maxHeartbeats 2000000 in
theorem nnext_err (r : Rg) (hr0 : r.Ok) {w : World} {B b p c : Nat} {f : Nat → Nat} {O : Nat → Prop} (h : RamB w B b p f c O) (hA : AreasAt w) (hG : 0 < B) (he : (nextV p f r).2.2.2 ≠ 0) : Calls Tryd.prog 16 #[.agg r.cells, .pointer (some ⟨b, 0, none⟩)] w fun e w' => e = .returned (.tuple #[.agg (zeroCn.c nilS), .bool false, errR (nextV p f r).2.2.2]) ∧ ∃ O', RamB w' B b p f c O' ∧ Went B O O' w w' := by
  have HN : Hid (∀ W O1, RamB W B b p f c O1 → AreasAt W → Calls Tryd.prog 28 #[.agg r.cells, .pointer (some ⟨b, 0, none⟩)] W fun e w' => e = .returned (.tuple #[.agg (nextV p f r).1.cells, .int .i64 ((nextV p f r).2.1 : Nat), .bool (nextV p f r).2.2.1, errR (nextV p f r).2.2.2]) ∧ ∃ O', RamB w' B b p f c O' ∧ Went B O1 O' W w') := hide (fun W O1 hM hA => rnext_any r hr0 hM hA hG)
  have hE : ∃ z : Int, errR (nextV p f r).2.2.2 = .iface 59 (.int .i64 z) := ⟨_, by unfold errR; rw [if_neg he]⟩
  clear he
  generalize nextV p f r = nv at *
  obtain ⟨r1, h1, is, en⟩ := nv
  simp only at HN hE ⊢
  obtain ⟨z, hz⟩ := hE
  rw [hz] at HN ⊢
  clear hz
  have hB0 := h.base
  have hGw : 0 < w.heap.size := Nat.lt_of_lt_of_le hG hB0
  have hA0 := hA
  clear hA
  go_enter Tryd.func16, Tryd.ntmps16
  go_wp2_with (first | ((with_reducible refine bx_rp w.heap.size r ?_ ?_ ?_); exact rfl; exact rfl; intro W hr hb hz) | ((with_reducible refine al_cn (w.heap.size + 1) ?_ ?_); exact hz.out; intro W hq hb' hz'; replace hr := hr.bl (hz.out ▸ hb'); replace hb := hb.trans (hb'.mono (by omega)); replace hz := hz'; have hM := h.bl hb; have hW := Went.of (O := O) hb hB0; have hA := hA0.bl hb; have hF := h.far 2; have hS : w.heap.size + 2 ≤ W.heap.size := Nat.le_of_eq hz.out.symm; have hB : B ≤ W.heap.size := Nat.le_trans hB0 hb.size; clear hb hz hb' hz') | ((with_reducible refine ld_rp w.heap.size r hr ?_ ?_ ?_); exact rfl; exact rfl) | (go_at_call 28; (with_reducible refine (HN.out _ _ hM hA).mono ?_); rintro e W2 ⟨rfl, O2, hM2, hW2⟩; replace hr := hW2.row hr (hF.at 0 (by omega)); replace hq := hW2.row hq (hF.at 1 (by omega)); replace hA := hA.wentR hG hW2; replace hF := hF.went hW2 hS; replace hS := Nat.le_trans hS hW2.size; replace hW := hW.trans hW2; replace hB := Nat.le_trans hB hW2.size; replace hM := hM2; clear hM2 hW2; obtain ⟨NX, hNX0⟩ : ∃ n, W2.heap.size = n := ⟨_, rfl⟩; have hNX := hide hNX0; have hNXx : w.heap.size + 2 ≤ NX := hNX0 ▸ hS; clear hNX0) | ((with_reducible refine al_rp NX ?_ ?_); exact hNX.out; intro W hg hb' hz'; have hbc := hNX.out ▸ hb'; have hgO := (fun e => absurd (hM.lt NX e) (by rw [hNX.out]; omega) : ¬ O2 NX); replace hM := hM.bl hbc; replace hW := hW.bl hbc hB; replace hA := hA.bl hbc; replace hB := Nat.le_trans hB hbc.size; replace hS := Nat.le_trans hS hbc.size; replace hr := hr.bl hbc; replace hq := hq.bl hbc; clear hb' hbc) | ((with_reducible refine st_rp NX _ r1 hg ?_ ?_ ?_); exact rfl; exact rfl; intro W hnew ho; have hOLD := hg; replace hr := hr.only ho (by omega); replace hq := hq.only ho (by omega); replace hM := hM.only ho hgO; replace hA := hA.onlyR ho (by omega); replace hW := hW.only ho (by omega) (by omega); replace hS := (show w.heap.size + 2 ≤ W.heap.size by rw [ho.size]; exact hS); replace hB := (show B ≤ W.heap.size by rw [ho.size]; exact hB); replace hg := hnew; clear hnew ho) | ((with_reducible refine st_cn (w.heap.size + 1) _ _ zeroCn nilS rfl hq ?_ ?_ ?_); exact rfl; exact rfl; intro W hnew ho; replace hg := hg.only ho (by omega); replace hr := hr.only ho (by omega); replace hM := hM.only ho (hF.at 1 (by omega)); replace hA := hA.onlyR ho (by omega); replace hW := hW.only ho (by omega) (by omega); replace hS := (show w.heap.size + 2 ≤ W.heap.size by rw [ho.size]; exact hS); replace hB := (show B ≤ W.heap.size by rw [ho.size]; exact hB); replace hq := hnew; clear hnew ho))
  refine bodyPost_ret (results_cell_two' Tryd.results16 _ _ (w.heap.size + 1) _ _ _ rfl hq Tryd.underlying65 rfl size_cn) rfl ?_
  exact ⟨rfl, _, hM, hW⟩
set_option maxHeartbeats 2000000 in
theorem nnext_none (r : Rg) (hr0 : r.Ok) {w : World} {B b p c : Nat} {f : Nat → Nat} {O : Nat → Prop} (h : RamB w B b p f c O) (hA : AreasAt w) (hG : 0 < B) (he : (nextV p f r).2.2.2 = 0) (hi : (nextV p f r).2.2.1 = false) : Calls Tryd.prog 16 #[.agg r.cells, .pointer (some ⟨b, 0, none⟩)] w fun e w' => e = .returned (.tuple #[.agg (zeroCn.c nilS), .bool false, .nilIface]) ∧ ∃ O', RamB w' B b p f c O' ∧ Went B O O' w w' := by
  have HN : Hid (∀ W O1, RamB W B b p f c O1 → AreasAt W → Calls Tryd.prog 28 #[.agg r.cells, .pointer (some ⟨b, 0, none⟩)] W fun e w' => e = .returned (.tuple #[.agg (nextV p f r).1.cells, .int .i64 ((nextV p f r).2.1 : Nat), .bool (nextV p f r).2.2.1, errR (nextV p f r).2.2.2]) ∧ ∃ O', RamB w' B b p f c O' ∧ Went B O1 O' W w') := hide (fun W O1 hM hA => rnext_any r hr0 hM hA hG)
  generalize nextV p f r = nv at *
  obtain ⟨r1, h1, is, en⟩ := nv
  simp only at HN he hi
  subst he hi
  rw [show errR 0 = .nilIface from rfl] at HN
  have hB0 := h.base
  have hGw : 0 < w.heap.size := Nat.lt_of_lt_of_le hG hB0
  have hA0 := hA
  clear hA
  go_enter Tryd.func16, Tryd.ntmps16
  go_wp2_with (first | ((with_reducible refine bx_rp w.heap.size r ?_ ?_ ?_); exact rfl; exact rfl; intro W hr hb hz) | ((with_reducible refine al_cn (w.heap.size + 1) ?_ ?_); exact hz.out; intro W hq hb' hz'; replace hr := hr.bl (hz.out ▸ hb'); replace hb := hb.trans (hb'.mono (by omega)); replace hz := hz'; have hM := h.bl hb; have hW := Went.of (O := O) hb hB0; have hA := hA0.bl hb; have hF := h.far 2; have hS : w.heap.size + 2 ≤ W.heap.size := Nat.le_of_eq hz.out.symm; have hB : B ≤ W.heap.size := Nat.le_trans hB0 hb.size; clear hb hz hb' hz') | ((with_reducible refine ld_rp w.heap.size r hr ?_ ?_ ?_); exact rfl; exact rfl) | (go_at_call 28; (with_reducible refine (HN.out _ _ hM hA).mono ?_); rintro e W2 ⟨rfl, O2, hM2, hW2⟩; replace hr := hW2.row hr (hF.at 0 (by omega)); replace hq := hW2.row hq (hF.at 1 (by omega)); replace hA := hA.wentR hG hW2; replace hF := hF.went hW2 hS; replace hS := Nat.le_trans hS hW2.size; replace hW := hW.trans hW2; replace hB := Nat.le_trans hB hW2.size; replace hM := hM2; clear hM2 hW2; obtain ⟨NX, hNX0⟩ : ∃ n, W2.heap.size = n := ⟨_, rfl⟩; have hNX := hide hNX0; have hNXx : w.heap.size + 2 ≤ NX := hNX0 ▸ hS; clear hNX0) | ((with_reducible refine al_rp NX ?_ ?_); exact hNX.out; intro W hg hb' hz'; have hbc := hNX.out ▸ hb'; have hgO := (fun e => absurd (hM.lt NX e) (by rw [hNX.out]; omega) : ¬ O2 NX); replace hM := hM.bl hbc; replace hW := hW.bl hbc hB; replace hA := hA.bl hbc; replace hB := Nat.le_trans hB hbc.size; replace hS := Nat.le_trans hS hbc.size; replace hr := hr.bl hbc; replace hq := hq.bl hbc; clear hb' hbc) | ((with_reducible refine st_rp NX _ r1 hg ?_ ?_ ?_); exact rfl; exact rfl; intro W hnew ho; have hOLD := hg; replace hr := hr.only ho (by omega); replace hq := hq.only ho (by omega); replace hM := hM.only ho hgO; replace hA := hA.onlyR ho (by omega); replace hW := hW.only ho (by omega) (by omega); replace hS := (show w.heap.size + 2 ≤ W.heap.size by rw [ho.size]; exact hS); replace hB := (show B ≤ W.heap.size by rw [ho.size]; exact hB); replace hg := hnew; clear hnew ho) | ((with_reducible refine st_cn (w.heap.size + 1) _ _ zeroCn nilS rfl hq ?_ ?_ ?_); exact rfl; exact rfl; intro W hnew ho; replace hg := hg.only ho (by omega); replace hr := hr.only ho (by omega); replace hM := hM.only ho (hF.at 1 (by omega)); replace hA := hA.onlyR ho (by omega); replace hW := hW.only ho (by omega) (by omega); replace hS := (show w.heap.size + 2 ≤ W.heap.size by rw [ho.size]; exact hS); replace hB := (show B ≤ W.heap.size by rw [ho.size]; exact hB); replace hq := hnew; clear hnew ho))
  refine bodyPost_ret (results_cell_two' Tryd.results16 _ _ (w.heap.size + 1) _ _ _ rfl hq Tryd.underlying65 rfl size_cn) rfl ?_
  exact ⟨rfl, _, hM, hW⟩
set_option maxHeartbeats 2000000 in
theorem nnext_nw (r : Rg) (hr0 : r.Ok) {w : World} {B b p c : Nat} {f : Nat → Nat} {O : Nat → Prop} (h : RamB w B b p f c O) (hA : AreasAt w) (hG : 0 < B) (he : (nextV p f r).2.2.2 = 0) (hi : (nextV p f r).2.2.1 = true) (hk : walkV p f (nextV p f r).1 ((nextV p f r).2.1 : Nat) = none) : Calls Tryd.prog 16 #[.agg r.cells, .pointer (some ⟨b, 0, none⟩)] w fun e w' => e = .returned (.tuple #[.agg (zeroCn.c nilS), .bool false, .iface 59 (.int .i64 22)]) ∧ ∃ O', RamB w' B b p f c O' ∧ Went B O O' w w' := by
  have HN : Hid (∀ W O1, RamB W B b p f c O1 → AreasAt W → Calls Tryd.prog 28 #[.agg r.cells, .pointer (some ⟨b, 0, none⟩)] W fun e w' => e = .returned (.tuple #[.agg (nextV p f r).1.cells, .int .i64 ((nextV p f r).2.1 : Nat), .bool (nextV p f r).2.2.1, errR (nextV p f r).2.2.2]) ∧ ∃ O', RamB w' B b p f c O' ∧ Went B O1 O' W w') := hide (fun W O1 hM hA => rnext_any r hr0 hM hA hG)
  have HWk : Hid (∀ W O1, RamB W B b p f c O1 → AreasAt W → Calls Tryd.prog 29 #[.agg (nextV p f r).1.cells, .pointer (some ⟨b, 0, none⟩), .int .i64 ((nextV p f r).2.1 : Nat)] W fun e w' => e = .returned (.tuple #[.slice none 0 0, .iface 59 (.int .i64 22)]) ∧ ∃ O', RamB w' B b p f c O' ∧ Went B O1 O' W w') := hide (fun W O1 hM hA => (walk_all (nextV p f r).1 (nextV_is hr0 hi).1 (nextV_is hr0 hi).2 ((nextV p f r).2.1 : Nat) hM hA hG).mono (by
    rintro e w' ⟨O', h1, h2, ⟨_, rfl⟩ | ⟨ps, v, h3, _⟩⟩
    · exact ⟨rfl, O', h1, h2⟩
    · rw [hk] at h3; cases h3))
  clear hk
  generalize nextV p f r = nv at *
  obtain ⟨r1, h1, is, en⟩ := nv
  simp only at HN HWk he hi
  subst he hi
  rw [show errR 0 = .nilIface from rfl] at HN
  have hB0 := h.base
  have hGw : 0 < w.heap.size := Nat.lt_of_lt_of_le hG hB0
  have hA0 := hA
  clear hA
  go_enter Tryd.func16, Tryd.ntmps16
  go_wp2_with (first | ((with_reducible refine bx_rp w.heap.size r ?_ ?_ ?_); exact rfl; exact rfl; intro W hr hb hz) | ((with_reducible refine al_cn (w.heap.size + 1) ?_ ?_); exact hz.out; intro W hq hb' hz'; replace hr := hr.bl (hz.out ▸ hb'); replace hb := hb.trans (hb'.mono (by omega)); replace hz := hz'; have hM := h.bl hb; have hW := Went.of (O := O) hb hB0; have hA := hA0.bl hb; have hF := h.far 2; have hS : w.heap.size + 2 ≤ W.heap.size := Nat.le_of_eq hz.out.symm; have hB : B ≤ W.heap.size := Nat.le_trans hB0 hb.size; clear hb hz hb' hz') | ((with_reducible refine ld_rp w.heap.size r hr ?_ ?_ ?_); exact rfl; exact rfl) | (go_at_call 28; (with_reducible refine (HN.out _ _ hM hA).mono ?_); rintro e W2 ⟨rfl, O2, hM2, hW2⟩; replace hr := hW2.row hr (hF.at 0 (by omega)); replace hq := hW2.row hq (hF.at 1 (by omega)); replace hA := hA.wentR hG hW2; replace hF := hF.went hW2 hS; replace hS := Nat.le_trans hS hW2.size; replace hW := hW.trans hW2; replace hB := Nat.le_trans hB hW2.size; replace hM := hM2; clear hM2 hW2; obtain ⟨NX, hNX0⟩ : ∃ n, W2.heap.size = n := ⟨_, rfl⟩; have hNX := hide hNX0; have hNXx : w.heap.size + 2 ≤ NX := hNX0 ▸ hS; clear hNX0) | ((with_reducible refine al_rp NX ?_ ?_); exact hNX.out; intro W hg hb' hz'; have hbc := hNX.out ▸ hb'; have hgO := (fun e => absurd (hM.lt NX e) (by rw [hNX.out]; omega) : ¬ O2 NX); replace hM := hM.bl hbc; replace hW := hW.bl hbc hB; replace hA := hA.bl hbc; replace hB := Nat.le_trans hB hbc.size; replace hS := Nat.le_trans hS hbc.size; replace hr := hr.bl hbc; replace hq := hq.bl hbc; clear hb' hbc) | ((with_reducible refine st_rp NX _ r1 hg ?_ ?_ ?_); exact rfl; exact rfl; intro W hnew ho; have hOLD := hg; replace hr := hr.only ho (by omega); replace hq := hq.only ho (by omega); replace hM := hM.only ho hgO; replace hA := hA.onlyR ho (by omega); replace hW := hW.only ho (by omega) (by omega); replace hS := (show w.heap.size + 2 ≤ W.heap.size by rw [ho.size]; exact hS); replace hB := (show B ≤ W.heap.size by rw [ho.size]; exact hB); replace hg := hnew; clear hnew ho) | ((with_reducible refine ld_rp NX r1 hg ?_ ?_ ?_); exact rfl; exact rfl) | (go_at_call 29; (with_reducible refine (HWk.out _ _ hM hA).mono ?_); rintro e W2 ⟨rfl, O2, hM2, hW2⟩; (have hNO := hW2.no hg.lt hgO); replace hg := hW2.row hg hgO; (replace hgO := hNO); clear hNO; replace hr := hW2.row hr (hF.at 0 (by omega)); replace hq := hW2.row hq (hF.at 1 (by omega)); replace hA := hA.wentR hG hW2; replace hF := hF.went hW2 hS; replace hS := Nat.le_trans hS hW2.size; replace hW := hW.trans hW2; replace hB := Nat.le_trans hB hW2.size; replace hM := hM2; clear hM2 hW2) | ((with_reducible refine st_cn (w.heap.size + 1) _ _ zeroCn nilS rfl hq ?_ ?_ ?_); exact rfl; exact rfl; intro W hnew ho; replace hg := hg.only ho (by omega); replace hr := hr.only ho (by omega); replace hM := hM.only ho (hF.at 1 (by omega)); replace hA := hA.onlyR ho (by omega); replace hW := hW.only ho (by omega) (by omega); replace hS := (show w.heap.size + 2 ≤ W.heap.size by rw [ho.size]; exact hS); replace hB := (show B ≤ W.heap.size by rw [ho.size]; exact hB); replace hq := hnew; clear hnew ho))
  refine bodyPost_ret (results_cell_two' Tryd.results16 _ _ (w.heap.size + 1) _ _ _ rfl hq Tryd.underlying65 rfl size_cn) rfl ?_
  exact ⟨rfl, _, hM, hW⟩
set_option maxHeartbeats 2000000 in
theorem nnext_ok (r : Rg) (hr0 : r.Ok) {w : World} {B b p c : Nat} {f : Nat → Nat} {O : Nat → Prop} (h : RamB w B b p f c O) (hA : AreasAt w) (hG : 0 < B) (he : (nextV p f r).2.2.2 = 0) (hi : (nextV p f r).2.2.1 = true) (ps : List Sg) (hk : walkV p f (nextV p f r).1 ((nextV p f r).2.1 : Nat) = some ps) : Calls Tryd.prog 16 #[.agg r.cells, .pointer (some ⟨b, 0, none⟩)] w fun e w' => ∃ lv, e = .returned (.tuple #[.agg ((⟨(nextV p f r).1, ((nextV p f r).2.1 : Nat)⟩ : Cn).c lv), .bool true, .nilIface]) ∧ ∃ O', RamB w' B b p f c O' ∧ Went B O O' w w' ∧ w'.ownsRow w.heap.size 104 3 lv ps.length (segL ps) ∧ ∀ g, lv.ownBlock = some g → ¬ O' g := by
  have HN : Hid (∀ W O1, RamB W B b p f c O1 → AreasAt W → Calls Tryd.prog 28 #[.agg r.cells, .pointer (some ⟨b, 0, none⟩)] W fun e w' => e = .returned (.tuple #[.agg (nextV p f r).1.cells, .int .i64 ((nextV p f r).2.1 : Nat), .bool (nextV p f r).2.2.1, errR (nextV p f r).2.2.2]) ∧ ∃ O', RamB w' B b p f c O' ∧ Went B O1 O' W w') := hide (fun W O1 hM hA => rnext_any r hr0 hM hA hG)
  have HWk : Hid (∀ W O1, RamB W B b p f c O1 → AreasAt W → Calls Tryd.prog 29 #[.agg (nextV p f r).1.cells, .pointer (some ⟨b, 0, none⟩), .int .i64 ((nextV p f r).2.1 : Nat)] W fun e w' => ∃ lv, e = .returned (.tuple #[lv, .nilIface]) ∧ ∃ O', RamB w' B b p f c O' ∧ Went B O1 O' W w' ∧ w'.ownsRow W.heap.size 104 3 lv ps.length (segL ps) ∧ ∀ g, lv.ownBlock = some g → ¬ O' g) := hide (fun W O1 hM hA => (walk_all (nextV p f r).1 (nextV_is hr0 hi).1 (nextV_is hr0 hi).2 ((nextV p f r).2.1 : Nat) hM hA hG).mono (by
    rintro e w' ⟨O', h1, h2, ⟨h3, _⟩ | ⟨ps', v, h3, rfl, h4, h5⟩⟩
    · rw [hk] at h3; cases h3
    · rw [hk] at h3; cases h3; exact ⟨v, rfl, O', h1, h2, h4, h5⟩))
  clear hk
  generalize nextV p f r = nv at *
  obtain ⟨r1, h1, is, en⟩ := nv
  simp only at HN HWk he hi ⊢
  subst he hi
  rw [show errR 0 = .nilIface from rfl] at HN
  have hB0 := h.base
  have hGw : 0 < w.heap.size := Nat.lt_of_lt_of_le hG hB0
  have hA0 := hA
  clear hA
  go_enter Tryd.func16, Tryd.ntmps16
  go_wp2_with (first | ((with_reducible refine bx_rp w.heap.size r ?_ ?_ ?_); exact rfl; exact rfl; intro W hr hb hz) | ((with_reducible refine al_cn (w.heap.size + 1) ?_ ?_); exact hz.out; intro W hq hb' hz'; replace hr := hr.bl (hz.out ▸ hb'); replace hb := hb.trans (hb'.mono (by omega)); replace hz := hz'; have hM := h.bl hb; have hW := Went.of (O := O) hb hB0; have hA := hA0.bl hb; have hF := h.far 2; have hS : w.heap.size + 2 ≤ W.heap.size := Nat.le_of_eq hz.out.symm; have hB : B ≤ W.heap.size := Nat.le_trans hB0 hb.size; clear hb hz hb' hz') | ((with_reducible refine ld_rp w.heap.size r hr ?_ ?_ ?_); exact rfl; exact rfl) | (go_at_call 28; (with_reducible refine (HN.out _ _ hM hA).mono ?_); rintro e W2 ⟨rfl, O2, hM2, hW2⟩; replace hr := hW2.row hr (hF.at 0 (by omega)); replace hq := hW2.row hq (hF.at 1 (by omega)); replace hA := hA.wentR hG hW2; replace hF := hF.went hW2 hS; replace hS := Nat.le_trans hS hW2.size; replace hW := hW.trans hW2; replace hB := Nat.le_trans hB hW2.size; replace hM := hM2; clear hM2 hW2; obtain ⟨NX, hNX0⟩ : ∃ n, W2.heap.size = n := ⟨_, rfl⟩; have hNX := hide hNX0; have hNXx : w.heap.size + 2 ≤ NX := hNX0 ▸ hS; clear hNX0) | ((with_reducible refine al_rp NX ?_ ?_); exact hNX.out; intro W hg hb' hz'; have hbc := hNX.out ▸ hb'; have hgO := (fun e => absurd (hM.lt NX e) (by rw [hNX.out]; omega) : ¬ O2 NX); replace hM := hM.bl hbc; replace hW := hW.bl hbc hB; replace hA := hA.bl hbc; replace hB := Nat.le_trans hB hbc.size; replace hS := Nat.le_trans hS hbc.size; replace hr := hr.bl hbc; replace hq := hq.bl hbc; clear hb' hbc) | ((with_reducible refine st_rp NX _ r1 hg ?_ ?_ ?_); exact rfl; exact rfl; intro W hnew ho; have hOLD := hg; replace hr := hr.only ho (by omega); replace hq := hq.only ho (by omega); replace hM := hM.only ho hgO; replace hA := hA.onlyR ho (by omega); replace hW := hW.only ho (by omega) (by omega); replace hS := (show w.heap.size + 2 ≤ W.heap.size by rw [ho.size]; exact hS); replace hB := (show B ≤ W.heap.size by rw [ho.size]; exact hB); replace hg := hnew; clear hnew ho) | ((with_reducible refine ld_rp NX r1 hg ?_ ?_ ?_); exact rfl; exact rfl) | (go_at_call 29; (with_reducible refine (HWk.out _ _ hM hA).mono ?_); rintro e W2 ⟨lv, rfl, O2, hM2, hW2, hl0, hln⟩; have hl : W2.ownsRow w.heap.size 104 3 lv ps.length (segL ps) := own_lower2 hl0 (by omega); have hlb := fun g e => (hl0.lt g e).1; clear hl0; obtain ⟨lva, lvc, rfl, _, _⟩ := own_form hl; (have hNO := hW2.no hg.lt hgO); replace hg := hW2.row hg hgO; (replace hgO := hNO); clear hNO; replace hr := hW2.row hr (hF.at 0 (by omega)); replace hq := hW2.row hq (hF.at 1 (by omega)); replace hA := hA.wentR hG hW2; replace hF := hF.went hW2 hS; replace hS := Nat.le_trans hS hW2.size; replace hW := hW.trans hW2; replace hB := Nat.le_trans hB hW2.size; replace hM := hM2; clear hM2 hW2) | ((with_reducible refine bd_cn r1 ((h1 : Nat) : Int) lva ps.length lvc ?_ ?_ ?_ ?_); exact rfl; exact rfl; exact rfl) | ((with_reducible refine st_cn (w.heap.size + 1) _ _ ⟨r1, ((h1 : Nat) : Int)⟩ (.slice lva ps.length lvc) (own_one hl) hq ?_ ?_ ?_); exact rfl; exact rfl; intro W hnew ho; replace hl := own_only hl ho (fun e => absurd (own_ty hl e hq) (by decide)); replace hg := hg.only ho (by omega); replace hr := hr.only ho (by omega); replace hM := hM.only ho (hF.at 1 (by omega)); replace hA := hA.onlyR ho (by omega); replace hW := hW.only ho (by omega) (by omega); replace hS := (show w.heap.size + 2 ≤ W.heap.size by rw [ho.size]; exact hS); replace hB := (show B ≤ W.heap.size by rw [ho.size]; exact hB); replace hq := hnew; clear hnew ho))
  refine bodyPost_ret (results_cell_two' Tryd.results16 _ _ (w.heap.size + 1) _ _ _ rfl hq Tryd.underlying65 rfl size_cn) rfl ?_
  exact ⟨_, rfl, _, hM, hW, hl, hln⟩
theorem nnext_any (r : Rg) (hr0 : r.Ok) {w : World} {B b p c : Nat} {f : Nat → Nat} {O : Nat → Prop} (h : RamB w B b p f c O) (hA : AreasAt w) (hG : 0 < B) : Calls Tryd.prog 16 #[.agg r.cells, .pointer (some ⟨b, 0, none⟩)] w fun e w' => ∃ O', RamB w' B b p f c O' ∧ Went B O O' w w' ∧ (((ncNext p f r).2 = none ∧ e = .returned (.tuple #[.agg (zeroCn.c nilS), .bool false, errR (ncNext p f r).1])) ∨ ∃ cn ps lv, ncNext p f r = (0, some (cn, ps)) ∧ PartsOk p ps ∧ e = .returned (.tuple #[.agg (cn.c lv), .bool true, .nilIface]) ∧ w'.ownsRow w.heap.size 104 3 lv ps.length (segL ps) ∧ ∀ g, lv.ownBlock = some g → ¬ O' g) := by
  unfold ncNext
  by_cases he : (nextV p f r).2.2.2 = 0
  · rw [if_pos he]
    cases hi : (nextV p f r).2.2.1 with
    | false =>
      rw [if_neg (by decide)]
      refine (nnext_none r hr0 h hA hG he hi).mono ?_
      rintro e w' ⟨rfl, O', h1, h2⟩
      exact ⟨O', h1, h2, .inl ⟨rfl, rfl⟩⟩
    | true =>
      rw [if_pos rfl]
      cases hk : walkV p f (nextV p f r).1 ((nextV p f r).2.1 : Nat) with
      | none =>
        refine (nnext_nw r hr0 h hA hG he hi hk).mono ?_
        rintro e w' ⟨rfl, O', h1, h2⟩
        exact ⟨O', h1, h2, .inl ⟨rfl, rfl⟩⟩
      | some ps =>
        have hP := walk_parts h.small (nextV_is hr0 hi).2 hk
        refine (nnext_ok r hr0 h hA hG he hi ps hk).mono ?_
        rintro e w' ⟨lv, rfl, O', h1, h2, h3, h4⟩
        exact ⟨O', h1, h2, .inr ⟨_, ps, lv, rfl, hP, rfl, h3, h4⟩⟩
  · rw [if_neg he]
    refine (nnext_err r hr0 h hA hG he).mono ?_
    rintro e w' ⟨rfl, O', h1, h2⟩
    exact ⟨O', h1, h2, .inl ⟨rfl, rfl⟩⟩
end Go.Proofs.YtbggkoahofnnjaaDoor
namespace Go.Proofs.YtbggkoahofnnjaaDoor
open Go.RowKit
set_option linter.unusedVariables false
set_option linter.unusedSimpArgs false

/-- A frame in a chain's bytes: behind the head. -/
structure FrAt (w : World) (B : Nat) (O : Nat → Prop) (fr : List Nat) (dv : Value) : Prop where
  ex : ∃ g cap all, dv = .slice (some ⟨g, 12, none⟩) (all.length - 12) (cap - 12) ∧ all.length ≤ cap ∧ w.ownsRow B 5 1 (.slice (some ⟨g, 0, none⟩) all.length cap) all.length (byteV all) ∧ 12 < all.length ∧ fr = all.drop 12 ∧ ¬ O g ∧ ∀ y ∈ all, y < 256
set_option maxHeartbeats 2000000 in
theorem nframe_no (cn : Cn) (ps : List Sg) {lv : Value} {Bl : Nat} {w : World} {B b p c : Nat} {f : Nat → Nat} {O : Nat → Prop} (h : RamB w B b p f c O) (hA : AreasAt w) (hG : 0 < B) (hL : w.ownsRow Bl 104 3 lv ps.length (segL ps)) (hP : PartsOk p ps) (hfr : ncFrame f ps = none) : Calls Tryd.prog 24 #[.agg (cn.c lv), .pointer (some ⟨b, 0, none⟩)] w fun e w' => e = .returned (.tuple #[.slice none 0 0, .iface 59 (.int .i64 2)]) ∧ ∃ O', RamB w' B b p f c O' ∧ Went B O O' w w' := by
  obtain ⟨R0, R1⟩ := hP.rooms false
  have HR : Hid (∀ W, W.ownsRow Bl 104 3 lv ps.length (segL ps) → Calls Tryd.prog 19 #[lv] W fun e w' => e = .returned (.tuple #[.int .i64 (sumR false ps : Nat), .int .i64 (roomV true 0 ps)]) ∧ Below W.heap.size W w') := hide (fun W hL => by have := room_any ps (by have := hP.len; omega) (fun g hg => (hP.ok g hg).1) hL; rw [R0] at this; exact this)
  have hq : isFr ((sumR false ps : Nat) - 12 : Int) = false := by
    unfold ncFrame at hfr
    rw [R0] at hfr
    cases h : isFr ((sumR false ps : Nat) - 12 : Int) with
    | false => rfl
    | true => rw [h] at hfr; simp at hfr
  clear hfr hP R0
  generalize sumR false ps = R at *
  generalize roomV true 0 ps = RT at *
  have HI : Hid (∀ W, Calls Tryd.prog 13 #[.int .i64 ((R : Int) - 12)] W fun e w' => e = .returned (.bool false) ∧ w' = W) := hide (fun W => by have := isfr_any ((R : Int) - 12) W; rw [hq] at this; exact this)
  clear hq
  have e1 : IntKind.i64.wrap ((R : Int) - 12) = (R : Int) - 12 := by rw [IntKind.wrap_i64]; omega
  have e2 : wrap64 ((R : Int) - 12) = (R : Int) - 12 := by unfold wrap64; omega
  have hB0 := h.base
  have hGw : 0 < w.heap.size := Nat.lt_of_lt_of_le hG hB0
  have hA0 := hA
  clear hA
  go_enter Tryd.func24, Tryd.ntmps24
  go_wp2_with (first | ((with_reducible refine bx_cn w.heap.size cn lv ?_ ?_ ?_); exact rfl; exact rfl; intro W hk hb hz; have hM := h.bl hb; have hW := Went.of (O := O) hb hB0; have hA := hA0.bl hb; have hF := h.far 1; have hS : w.heap.size + 1 ≤ W.heap.size := Nat.le_of_eq hz.out.symm; have hB : B ≤ W.heap.size := Nat.le_trans hB0 hb.size; replace hL := own_bel hL hb; clear hb hz) | ((with_reducible refine ld_cps w.heap.size cn lv _ hk ?_ ?_ ?_); exact rfl; exact rfl) | (go_at_call 19; (with_reducible refine (HR.out _ hL).mono ?_); rintro e W ⟨rfl, hbc⟩; replace hM := hM.bl hbc; replace hW := hW.bl hbc hB; replace hA := hA.bl hbc; replace hB := Nat.le_trans hB hbc.size; replace hS := Nat.le_trans hS hbc.size; replace hk := hk.bl hbc; replace hL := own_bel hL hbc) | (go_at_call 13; (with_reducible refine (HI.out _).mono ?_); rintro e W2 ⟨rfl, rfl⟩))
  go_ret2
  exact ⟨rfl, _, hM, hW⟩
set_option maxHeartbeats 2000000 in
theorem nframe_ok (cn : Cn) (ps : List Sg) {lv : Value} {Bl : Nat} {w : World} {B b p c : Nat} {f : Nat → Nat} {O : Nat → Prop} (h : RamB w B b p f c O) (hA : AreasAt w) (hG : 0 < B) (hL : w.ownsRow Bl 104 3 lv ps.length (segL ps)) (hP : PartsOk p ps) (fr : List Nat) (hfr : ncFrame f ps = some fr) : Calls Tryd.prog 24 #[.agg (cn.c lv), .pointer (some ⟨b, 0, none⟩)] w fun e w' => ∃ dv, e = .returned (.tuple #[dv, .nilIface]) ∧ ∃ O', RamB w' B b p f c O' ∧ Went B O O' w w' ∧ FrAt w' w.heap.size O' fr dv := by
  obtain ⟨R0, R1⟩ := hP.rooms false
  have HR : Hid (∀ W, W.ownsRow Bl 104 3 lv ps.length (segL ps) → Calls Tryd.prog 19 #[lv] W fun e w' => e = .returned (.tuple #[.int .i64 (sumR false ps : Nat), .int .i64 (roomV true 0 ps)]) ∧ Below W.heap.size W w') := hide (fun W hL => by have := room_any ps (by have := hP.len; omega) (fun g hg => (hP.ok g hg).1) hL; rw [R0] at this; exact this)
  have hq : isFr ((sumR false ps : Nat) - 12 : Int) = true ∧ fr = (gathF f (partsV false 9223372036854775807 ps)).drop 12 := by
    unfold ncFrame at hfr
    rw [R0] at hfr
    cases h : isFr ((sumR false ps : Nat) - 12 : Int) with
    | false => rw [h] at hfr; simp at hfr
    | true => rw [h] at hfr; simp at hfr; exact ⟨rfl, hfr.symm⟩
  obtain ⟨hq, rfl⟩ := hq
  clear hfr
  have hgl : (gathF f (partsV false 9223372036854775807 ps)).length = sumR false ps := gath_len f ps 9223372036854775807 (fun s hs => (hP.ok s hs).2) (by omega)
  have hgs := hide (gathF_small h.small (partsV false 9223372036854775807 ps))
  have HG : Hid (∀ W O1, RamB W B b p f c O1 → AreasAt W → W.ownsRow Bl 104 3 lv ps.length (segL ps) → Calls Tryd.prog 40 #[.pointer (some ⟨b, 0, none⟩), lv] W fun e w' => ∃ O' v', e = .returned (.tuple #[v', .nilIface]) ∧ RamB w' B b p f c O' ∧ Went B O1 O' W w' ∧ w'.ownsRow W.heap.size 5 1 v' (sumR false ps) (byteV (gathF f (partsV false 9223372036854775807 ps))) ∧ ∀ g, v'.ownBlock = some g → ¬ O' g) := hide (fun W O1 hM hA hL => by
    have := gath_ok ps (by have := hP.len; omega) (fun g hg => (hP.ok g hg).1) hM hA hG hL (parts_inS false ps _ hP.ins)
    rw [hgl] at this
    exact this)
  clear hP R0
  have HGL := hide hgl
  clear hgl
  generalize gathF f (partsV false 9223372036854775807 ps) = all at *
  generalize sumR false ps = R at *
  generalize roomV true 0 ps = RT at *
  have HI : Hid (∀ W, Calls Tryd.prog 13 #[.int .i64 ((R : Int) - 12)] W fun e w' => e = .returned (.bool true) ∧ w' = W) := hide (fun W => by have := isfr_any ((R : Int) - 12) W; rw [hq] at this; exact this)
  simp only [isFr, Bool.and_eq_true, decide_eq_true_eq] at hq
  obtain ⟨q1, q2⟩ := hq
  have q3 : 13 ≤ R := by omega
  clear q1
  have e1 : IntKind.i64.wrap ((R : Int) - 12) = (R : Int) - 12 := by rw [IntKind.wrap_i64]; omega
  have e2 : wrap64 ((R : Int) - 12) = (R : Int) - 12 := by unfold wrap64; omega
  have hB0 := h.base
  have hGw : 0 < w.heap.size := Nat.lt_of_lt_of_le hG hB0
  have hA0 := hA
  clear hA
  go_enter Tryd.func24, Tryd.ntmps24
  go_wp2_with (first | ((with_reducible refine bx_cn w.heap.size cn lv ?_ ?_ ?_); exact rfl; exact rfl; intro W hk hb hz; have hM := h.bl hb; have hW := Went.of (O := O) hb hB0; have hA := hA0.bl hb; have hF := h.far 1; have hS : w.heap.size + 1 ≤ W.heap.size := Nat.le_of_eq hz.out.symm; have hB : B ≤ W.heap.size := Nat.le_trans hB0 hb.size; replace hL := own_bel hL hb; clear hb hz) | ((with_reducible refine ld_cps w.heap.size cn lv _ hk ?_ ?_ ?_); exact rfl; exact rfl) | (go_at_call 19; (with_reducible refine (HR.out _ hL).mono ?_); rintro e W ⟨rfl, hbc⟩; replace hM := hM.bl hbc; replace hW := hW.bl hbc hB; replace hA := hA.bl hbc; replace hB := Nat.le_trans hB hbc.size; replace hS := Nat.le_trans hS hbc.size; replace hk := hk.bl hbc; replace hL := own_bel hL hbc) | (go_at_call 13; (with_reducible refine (HI.out _).mono ?_); rintro e W2 ⟨rfl, rfl⟩) | (go_at_call 40; (with_reducible refine (HG.out _ _ hM hA hL).mono ?_); rintro e W2 ⟨O2, gv, rfl, hM2, hW2, hY, hYn⟩; replace hY := own_lower2 hY (show w.heap.size ≤ _ by omega); obtain ⟨gb, gc, gcur, rfl, hg1, hg2, _, _, _, _⟩ := own_row hY (show 0 < R by omega); (have i1 : (12 : Int) ≤ (R : Int) := by omega); (have i2 : ¬ (gc : Int) = 12 := by omega); (have i3 : ¬ gc = 12 := by omega); clear hL; replace hk := hW2.row hk (hF.at 0 (by omega)); replace hA := hA.wentR hG hW2; replace hF := hF.went hW2 hS; replace hS := Nat.le_trans hS hW2.size; replace hW := hW.trans hW2; replace hB := Nat.le_trans hB hW2.size; replace hM := hM2; clear hM2 hW2))
  go_ret2
  have hl := HGL.out
  refine ⟨_, rfl, _, hM, hW, ⟨gb, gc, all, ?_, by omega, by rw [hl]; exact hY, by omega, rfl, hYn gb rfl, hgs.out⟩⟩
  rw [hl]
  first | rfl | (congr 1 <;> omega)
end Go.Proofs.YtbggkoahofnnjaaDoor
