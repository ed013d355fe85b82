/-
  Bytes that are read, joined and made a text.
-/
import Derived.Test.YtaaiockiojejeaaGreatDoorJR27
import Derived.Test.YtaaiockiojejeaaGreatDoorJR36
import Derived.Test.YtaaiockiojejeaaGreatDoorJR38
import Derived.Test.YtaaiockiojejeaaGreatDoorJR10
import Derived.Test.YtaaiockiojejeaaGreatDoorJR20
import Derived.Test.YtaaiockiojejeaaGreatDoorJR5
namespace Go.Proofs.YtaaiockiojejeaaGreatDoor
open Go.RowKit
set_option linter.unusedVariables false
set_option linter.unusedSimpArgs false

variable {ops : Array Oper} {rest : List Oper} {dst : Option Tmp} {ty : TypeId} {pos : String} {after : Array Edge} {a : Act} {w : World} {Q : Exit → Act → World → Prop} {K : Act → World → Prop} {x y : Operand} {gd : Option (Nat × Bool)}
theorem ldc_u32 (b j : Nat) (v : Int) (cur : Array Value) (t' : TypeId) (hr : RowAt w b cur t') (hc : cur[j]? = some (.int .u32 v)) (hx : a.eval x = .pointer (some ⟨b, j, none⟩)) (hw : Region.wanted ⟨dst, .load 22 x, ty, pos, after, gd⟩ (yielded ops a.tmps) = true)
    (k : wpList Tryz.prog ops Q rest (a.put dst (.int .u32 v)) w) : wpList Tryz.prog ops Q (⟨dst, .load 22 x, ty, pos, after, gd⟩ :: rest) a w :=
  op_load_cellg b j hx cur _ _ hr hc _ Tryz.underlying22 rfl hw k
theorem ldc_int (b j : Nat) (v : Int) (cur : Array Value) (t' : TypeId) (hr : RowAt w b cur t') (hc : cur[j]? = some (.int .i64 v)) (hx : a.eval x = .pointer (some ⟨b, j, none⟩)) (hw : Region.wanted ⟨dst, .load 3 x, ty, pos, after, gd⟩ (yielded ops a.tmps) = true)
    (k : wpList Tryz.prog ops Q rest (a.put dst (.int .i64 v)) w) : wpList Tryz.prog ops Q (⟨dst, .load 3 x, ty, pos, after, gd⟩ :: rest) a w :=
  op_load_cellg b j hx cur _ _ hr hc _ Tryz.underlying3 rfl hw k
theorem ldc_bool (b j : Nat) (v : Bool) (cur : Array Value) (t' : TypeId) (hr : RowAt w b cur t') (hc : cur[j]? = some (.bool v)) (hx : a.eval x = .pointer (some ⟨b, j, none⟩)) (hw : Region.wanted ⟨dst, .load 4 x, ty, pos, after, gd⟩ (yielded ops a.tmps) = true)
    (k : wpList Tryz.prog ops Q rest (a.put dst (.bool v)) w) : wpList Tryz.prog ops Q (⟨dst, .load 4 x, ty, pos, after, gd⟩ :: rest) a w :=
  op_load_cellg b j hx cur _ _ hr hc _ Tryz.underlying4 rfl hw k
/-- Bytes that are made: a list of one's own. -/
theorem made_b (w : World) (n : Nat) (hn : n ≤ 1000000) : (Instr.makeSlice 37 (.int .i64 (n : Nat)) (.int .i64 (n : Nat))).run Tryz.prog w = .ok (.slice (some ⟨w.heap.size, 0, none⟩) n n) (w.alloc (.cells (madeCells #[.int .u8 0] n) 5)) := by
  obtain ⟨i, h1, h2, h3, h4⟩ := info_b
  have hr := run_make (P := Tryz.prog) w 37 5 i _ Tryz.underlying37 h1 h2 .i64 .i64 (n : Int) (n : Int) (by omega) (Int.le_refl _) (by rw [h4]; omega) (by omega)
  rw [Int.toNat_natCast, h3, Nat.mul_one] at hr
  exact hr
theorem made_own (w : World) (n : Nat) (hn : n ≤ 1000000) : (w.alloc (.cells (madeCells #[.int .u8 0] n) 5)).ownsRow w.heap.size 5 1 (.slice (some ⟨w.heap.size, 0, none⟩) n n) n (byteV (List.replicate n 0)) := by
  have h := World.ownsRow_lit (e := 5) (size := 1) w (madeCells #[.int .u8 0] n) n (Nat.le_refl _) (by unfold maxLen; omega) (by rw [size_madeCells, Nat.mul_one])
  rw [toList_madeCells_one] at h
  have e : byteV (List.replicate n 0) = List.replicate n (.int .u8 0) := by unfold byteV; rw [List.map_replicate]; rfl
  rw [e]; exact h
theorem s_mkb (n : Nat) (hn : n ≤ 1000000) (N : Nat) (hN : w.heap.size = N) (hx : a.eval x = .int .i64 (n : Nat)) (hy : a.eval y = .int .i64 (n : Nat))
    (k : ∀ W, W.ownsRow N 5 1 (.slice (some ⟨N, 0, none⟩) n n) n (byteV (List.replicate n 0)) → Below N w W → Hid (W.heap.size = N + 1) → K (a.put dst (.slice (some ⟨N, 0, none⟩) n n)) W) :
    Oper.wp Tryz.prog ⟨dst, .makeSlice 37 x y, ty, pos, after, none⟩ a w K Q := by
  subst hN
  have : (execOp a.eval ⟨dst, .makeSlice 37 x y, ty, pos, after, none⟩).run Tryz.prog w = .ok (.value (.slice (some ⟨w.heap.size, 0, none⟩) n n)) (w.alloc (.cells (madeCells #[.int .u8 0] n) 5)) := by
    unfold execOp
    simp only [hx, hy, Sem.run_bind, made_b w n hn, Result.andThen_ok, Sem.run_pure]
  unfold Oper.wp
  rw [this, Oper.upon_value]
  exact k _ (made_own w n hn) (below_one w _) (hide (by simp))
/-- What is asked for, when it is one. -/
theorem asks_one {W : World} {B : Nat} {O : Nat → Prop} {av dv : Value} {k : Ak} (h : AsksAt W B O av [(k, dv)]) : ∃ g cap cur, av = .slice (some ⟨g, 0, none⟩) 1 cap ∧ B ≤ g ∧ ¬ O g ∧ RowAt W g cur 81 ∧ cur[0]? = some (.int .u32 (k.id : Nat)) ∧ cur[1]? = some (.bool k.wr) ∧ cur[2]? = some (.int .u32 (k.se : Nat)) ∧ cur[3]? = some (.int .i64 k.n) ∧ cur[4]? = some dv := by
  obtain ⟨g, cap, cur, rfl, _, _, hb, hr, hs, ht⟩ := own_row h.row (by show 0 < 1; decide)
  have hcl : ∀ i, i < 5 → cur[i]? = (k.c dv)[i]? := fun i hi => by
    have e1 : (cur.toList.take ([(k, dv)].length * 5))[i]? = cur[i]? := by
      rw [List.getElem?_take, if_pos (by show i < 1 * 5; omega), Array.getElem?_toList]
    rw [← e1, ht]
    show ((k.c dv).toList ++ [])[i]? = _
    rw [List.append_nil, Array.getElem?_toList]
  exact ⟨g, cap, cur, rfl, hb, h.far g rfl, hr, hcl 0 (by decide), hcl 1 (by decide), hcl 2 (by decide), hcl 3 (by decide), hcl 4 (by decide)⟩
theorem map_one {α β : Type} {l : List (α × β)} {x : α} (h : l.map (·.1) = [x]) : ∃ y, l = [(x, y)] := by
  rcases l with _ | ⟨⟨a, b⟩, _ | ⟨c, t⟩⟩
  · cases h
  · simp only [List.map_cons, List.map_nil, List.cons.injEq, and_true] at h; exact ⟨b, by rw [h]⟩
  · simp at h
theorem in_one {W : World} {B : Nat} {O : Nat → Prop} {v qv : Value} {q : Rq} (h : InAt W B O v [(q, qv)]) : ∃ a c, v = .slice a 1 c := by
  obtain ⟨a, c, e, _, _⟩ := own_form h.row
  exact ⟨a, c, e⟩
theorem in_none {W : World} {B : Nat} {O : Nat → Prop} {v : Value} (h : InAt W B O v []) : ∃ a c, v = .slice a 0 c := by
  obtain ⟨a, c, e, _, _⟩ := own_form h.row
  exact ⟨a, c, e⟩
theorem map_none {α β : Type} {l : List (α × β)} (h : l.map (·.1) = []) : l = [] := by cases l; rfl; cases h
theorem lR_ok {la pu : Nat} (h1 : la < 65536) (h2 : pu < 65536) : (lR la pu).Ok := ⟨by show (_ : Int) ≤ 4; decide, by show (4 : Int) ≤ _; decide, by show 2147483648 < _; decide, by show 2147483904 < _; decide, by show 2147484160 < _; decide, h1, h2⟩
theorem lvP_ok {la pu ir : Nat} (h1 : la < 65536) (h2 : pu < 65536) (h3 : ir < 4294967296) : (lvP la pu ir).Ok := ⟨by show 15 < _; decide, by show 0 < _; decide, by show 0 < _; decide, by show 0 < _; decide, h3, by show 0 < _; decide, by show 1 < _; decide, lR_ok h1 h2, zeroRg_ok⟩
theorem lvS_ok : lvS.Ok := ⟨lvP_ok (by decide) (by decide) (by decide), by show 100 < _; decide, by show 0 < _; decide, fun q h => (by cases h), by show 0 ≤ _; decide⟩
/-- Poll of the disk that works, when one request comes of it. -/
theorem poll_lv {W : World} {B b c : Nat} {f : Nat → Nat} {O : Nat → Prop} (hM : RamB W B b 2 f c O) (hA : AreasAt W) (hG : 2 < B) (hc : c ≤ 1000) {s : Bk} {q : Rq} {k : Ak} (hp : polV 2 f lvS = ⟨f, s, [k]⟩) (hs : s.l = [q]) :
    Calls Tryz.prog 12 #[.agg (lvS.c nilS), .pointer (some ⟨b, 0, none⟩)] W fun e w' => ∃ v' av qv dv O', e = .returned (.tuple #[.agg (s.c v'), av]) ∧ RamB w' B b 2 f (c + 262144) O' ∧ Went B O O' W w' ∧ InAt w' W.heap.size O' v' [(q, qv)] ∧ AsksAt w' W.heap.size O' av [(k, dv)] := by
  have h := poll_any lvS lvS_ok [] rfl (by decide) nilS hM hA hG (InAt.nil W 0 O) (by omega)
  rw [hp] at h
  refine h.mono ?_
  rintro e w' ⟨v', av, rfl, l', O', al, h1, h2, h3, h4, h5, h6⟩
  simp only at h1 h2 h6
  rw [hs] at h1
  obtain ⟨qv, rfl⟩ := map_one h1
  obtain ⟨dv, rfl⟩ := map_one h6
  exact ⟨v', av, qv, dv, O', rfl, h2, h3, h4, h5⟩
end Go.Proofs.YtaaiockiojejeaaGreatDoor
namespace Go.Proofs.YtaaiockiojejeaaGreatDoor
open Go.RowKit
set_option linter.unusedVariables false
set_option linter.unusedSimpArgs false

variable {ops : Array Oper} {rest : List Oper} {dst : Option Tmp} {ty : TypeId} {pos : String} {after : Array Edge} {a : Act} {w : World} {Q : Exit → Act → World → Prop} {K : Act → World → Prop} {x y : Operand} {gd : Option (Nat × Bool)}
def suC : Array Value := #[.int .u32 (0), .int .u32 (2147484416), .int .u32 (8), .int .u32 (16), .int .u32 (12), .int .u32 (65537), .int .u32 (16), .int .u32 (2147487744), .int .u32 (24), .int .u32 (513), .int .u32 (28), .int .u32 (2), .int .u32 (256), .int .u32 (65536), .int .u32 (776), .int .u32 (3)]
theorem bs_su (N : Nat) (hN : w.heap.size = N) (x0 x1 x2 x3 x4 x5 x6 x7 : Operand) (h0 : a.eval x0 = .agg #[.int .u32 (0), .int .u32 (2147484416)]) (h1 : a.eval x1 = .agg #[.int .u32 (8), .int .u32 (16)]) (h2 : a.eval x2 = .agg #[.int .u32 (12), .int .u32 (65537)]) (h3 : a.eval x3 = .agg #[.int .u32 (16), .int .u32 (2147487744)]) (h4 : a.eval x4 = .agg #[.int .u32 (24), .int .u32 (513)]) (h5 : a.eval x5 = .agg #[.int .u32 (28), .int .u32 (2)]) (h6 : a.eval x6 = .agg #[.int .u32 (256), .int .u32 (65536)]) (h7 : a.eval x7 = .agg #[.int .u32 (776), .int .u32 (3)])
    (k : ∀ W, RowAt W N (suC) 23 → Below N w W → Hid (W.heap.size = N + 1) → wpList Tryz.prog ops Q rest (a.put dst (.slice (some ⟨N, 0, none⟩) 8 8)) W) :
    wpList Tryz.prog ops Q (⟨dst, .buildSlice 35 8 #[(0, x0), (1, x1), (2, x2), (3, x3), (4, x4), (5, x5), (6, x6), (7, x7)], ty, pos, after, none⟩ :: rest) a w :=
  op_bsn 35 23 8 Tryz.underlying35 (suC) N hN [(0, .agg #[.int .u32 (0), .int .u32 (2147484416)]), (1, .agg #[.int .u32 (8), .int .u32 (16)]), (2, .agg #[.int .u32 (12), .int .u32 (65537)]), (3, .agg #[.int .u32 (16), .int .u32 (2147487744)]), (4, .agg #[.int .u32 (24), .int .u32 (513)]), (5, .agg #[.int .u32 (28), .int .u32 (2)]), (6, .agg #[.int .u32 (256), .int .u32 (65536)]), (7, .agg #[.int .u32 (776), .int .u32 (3)])] (by simp [h0, h1, h2, h3, h4, h5, h6, h7]) ⟨by kernel_rfl⟩ k
theorem pairs_su {W : World} {N B : Nat} (h : RowAt W N (suC) 23) (hB : N < B) : PairsAt W B (some ⟨N, 0, none⟩) 8 (suG) := by
  refine ⟨fun j hj => ⟨N, 0, rfl, hB, ?_, ?_⟩, fun j hj => ?_⟩
  · rw [h.cell]; rcases j with _ | _ | _ | _ | _ | _ | _ | _ | j <;> first | rfl | omega
  · rw [h.cell]; rcases j with _ | _ | _ | _ | _ | _ | _ | _ | j <;> first | rfl | omega
  · rcases j with _ | _ | _ | _ | _ | _ | _ | _ | j <;> first | (constructor <;> decide) | (refine ⟨by decide, ?_⟩; simp only [suG]; omega) | omega
theorem suQ_ok : suQ.Ok := ⟨by decide, by decide, by decide, by decide, by decide, by decide, fun g hg => by obtain rfl := List.mem_singleton.1 hg; exact ⟨by decide, by decide, by decide⟩, by decide⟩
theorem suS_ok : suS.Ok := ⟨lvP_ok (by decide) (by decide) (by decide), by show 100 < _; decide, by show 1 < _; decide, fun q h => by obtain rfl := List.mem_singleton.1 h; exact suQ_ok, by show 1 ≤ _; decide⟩
def suT : Bk := ⟨lvP 1 1 1, 100, false, 1, [suQ]⟩
set_option maxRecDepth 20000 in
set_option maxHeartbeats 4000000 in
theorem bsure_any (w : World) (hA : AreasAt w) : Calls Tryz.prog 10 #[] w fun e w' => e = .returned (.bool true) ∧ Below w.heap.size w w' := by
  obtain ⟨B, hB⟩ : ∃ B, w.heap.size = B := ⟨_, rfl⟩
  have hG0 : 2 < B := hB ▸ hA.lt
  have hG : 2 < B + 1 + 1 := by omega
  have hA0 := hA
  rw [hB]
  have HBo : Hid (∀ W, W.heap.size = B + 1 → RowAt W B suC 23 → Calls Tryz.prog 8 #[.slice (some ⟨B, 0, none⟩) 8 8] W fun e w' => ∃ b O r, e = .returned (.tuple #[.pointer (some ⟨b, 0, none⟩), .agg (RP.v r 8192 2)]) ∧ RamB w' (B + 1 + 1) b 2 suF 80 O ∧ Below (B + 1) W w') := hide (fun W hz hr => by
    have h := rboth_any (some ⟨B, 0, none⟩) 8 8 suG W (pairs_su hr (by omega)) (by decide) (by decide)
    rw [hz] at h
    exact h.mono (by
      rintro e w' ⟨b, f, O, r, hf, he, h1, _, h3⟩
      rw [hf] at h1
      exact ⟨b, O, r, he, h1, h3⟩))
  have HLi := hide blive_any
  have HPo : Hid (∀ W O1 b, RamB W (B + 1 + 1) b 2 suF 80 O1 → AreasAt W → Calls Tryz.prog 12 #[.agg (lvS.c nilS), .pointer (some ⟨b, 0, none⟩)] W fun e w' => ∃ v' av qv dv O', e = .returned (.tuple #[.agg (suS.c v'), av]) ∧ RamB w' (B + 1 + 1) b 2 suF 262224 O' ∧ Went (B + 1 + 1) O1 O' W w' ∧ InAt w' W.heap.size O' v' [(suQ, qv)] ∧ AsksAt w' W.heap.size O' av [(⟨0, false, 3, 512, []⟩, dv)]) := hide (fun W O1 b hM hA => poll_lv hM hA hG (by decide) su_pol rfl)
  have HFi : Hid (∀ W O1 b v qv Bi NB, RamB W (B + 1 + 1) b 2 suF 262224 O1 → AreasAt W → InAt W Bi O1 v [(suQ, qv)] → W.ownsRow NB 5 1 (.slice (some ⟨NB, 0, none⟩) 512 512) 512 (byteV (List.replicate 512 0)) → Calls Tryz.prog 17 #[.agg (suS.c v), .pointer (some ⟨b, 0, none⟩), .int .u32 0, .bool true, .slice (some ⟨NB, 0, none⟩) 512 512] W fun e w' => ∃ v' O', e = .returned (.tuple #[.agg (suT.c v'), .nilIface]) ∧ Went (B + 1 + 1) O1 O' W w' ∧ InAt w' W.heap.size O' v' []) := hide (fun W O1 b v qv Bi NB hM hA hI hD => by
    have h := finish_read suS suS_ok [(suQ, qv)] rfl (by show 1 ≤ 90; decide) v 0 hM hA hG hI (by decide) 0 suQ qv (by kernel_rfl) rfl (by decide) (some ⟨NB, 0, none⟩) 512 512 (List.replicate 512 0) (by rw [List.length_replicate]) (fun y hy => by rw [List.eq_of_mem_replicate hy]; decide) hD rfl rfl (by decide)
    rw [show suQ.l = [⟨2147487744, 513, true⟩] from rfl, show suQ.hd = 0 from rfl, su_ans] at h
    refine h.mono ?_
    rintro e w' ⟨v', rfl, l', O', h1, _, h3, h4⟩
    obtain rfl := map_none h1
    exact ⟨v', O', rfl, h3, h4⟩)
  clear hA
  go_enter Tryz.func10, Tryz.ntmps10
  go_wp2_with (first | ((with_reducible refine bs_su B ?_ _ _ _ _ _ _ _ _ ?_ ?_ ?_ ?_ ?_ ?_ ?_ ?_ ?_); exact hB; exact rfl; exact rfl; exact rfl; exact rfl; exact rfl; exact rfl; exact rfl; exact rfl; intro W hq hb hz) | (go_at_call 8; (with_reducible refine (HBo.out _ hz.out hq).mono ?_); rintro e W1 ⟨b, O, r, rfl, hM, hbc⟩; replace hb := hb.trans (hbc.mono (by omega)); have hA := hA0.bl (hB ▸ hb); obtain ⟨NX, hNX0⟩ : ∃ n, W1.heap.size = n := ⟨_, rfl⟩; have hNX := hide hNX0; have hNB : B + 1 + 1 ≤ NX := hNX0 ▸ hM.base; have hnx : ¬ O NX := (fun e => absurd (hM.lt _ e) (by omega)); clear hNX0 hbc hq hz) | ((with_reducible refine al_Rz NX ?_ ?_); exact hNX.out; intro W hx hb' hz2; have hbc : Below W1.heap.size W1 W := (by rw [hNX.out]; exact hb'); replace hb := hb.trans (hb'.mono (by omega)); replace hM := hM.bl hbc; replace hA := hA.bl hbc; clear hb' hbc) | ((with_reducible refine st_R NX _ r 8192 2 hx ?_ ?_ ?_ ?_); exact rfl; exact rfl; exact rfl; intro W hnew hoo; replace hM := hM.only hoo hnx; replace hA := hA.onlyR hoo (by omega); replace hb := hoo.bel _ _ (by omega) hb; clear hnew hoo hx) | (go_at_call 20; (with_reducible refine (HLi.out _).mono ?_); rintro e W ⟨rfl, hbc⟩; replace hb := hb.trans (hbc.mono (by have := hM.base; omega)); replace hM := hM.bl hbc; replace hA := hA.bl hbc; clear hbc) | (go_at_call 12; (with_reducible refine (HPo.out _ _ _ hM hA).mono ?_); rintro e W2 ⟨v1, av, qv, dv, O2, rfl, hM2, hW2, hI, hK⟩; replace hb := hb.trans (hW2.below.mono (by omega)); replace hA := hA.wentR hG hW2; replace hM := hM2; clear hM2 hW2; (obtain ⟨ga, ca, cur, rfl, hga, hgo, hgr, k0, k1, k2, k3, k4⟩ := asks_one hK); (have hv1o := own_one hI.row); obtain ⟨NR, hNR0⟩ : ∃ n, W2.heap.size = n := ⟨_, rfl⟩; have hNR := hide hNR0; have hRB : B + 1 + 1 ≤ NR := hNR0 ▸ hM.base; (have hgl : ga < NR := hNR0 ▸ hgr.lt); (have hil : ∀ g, v1.ownBlock = some g → g < NR := fun g e => hNR0 ▸ (hI.row.lt g e).2); (have hils : ∀ x ∈ [(suQ, qv)], ∀ g, x.2.ownBlock = some g → g < NR := fun x hx g e => hNR0 ▸ ((hI.own x hx).lt g e).2); have hnr : ¬ O2 NR := (fun e => absurd (hM.lt _ e) (by omega)); clear hNR0 hK hga) | ((with_reducible refine al_bk NR ?_ ?_); exact hNR.out; intro W hr hb' hz2; have hbc : Below W2.heap.size W2 W := (by rw [hNR.out]; exact hb'); replace hb := hb.trans (hb'.mono (by omega)); replace hM := hM.bl hbc; replace hA := hA.bl hbc; replace hI := hI.bl hbc; replace hgr := hgr.bl hbc; clear hb' hbc hz2) | ((with_reducible refine st_bk NR _ _ suS v1 hv1o hr ?_ ?_ ?_); exact rfl; exact rfl; intro W hnew hoo; replace hM := hM.only hoo hnr; replace hA := hA.onlyR hoo (by omega); replace hb := hoo.bel _ _ (by omega) hb; replace hI := hI.only hoo (fun e => absurd (hil _ e) (by omega)) (fun x hx e => absurd (hils x hx _ e) (by omega)); replace hgr := hgr.only hoo (by omega); replace hr := hnew; clear hnew hoo))
  (obtain ⟨va1, vc1, rfl⟩ := in_one hI)
  refine wp_region_held_drew (S := (fun V => RowAt V NR (suS.c (.slice va1 1 vc1)) 53)) (by kernel_rfl) ?_ (fun hHeld => ?_)
  · exact hr.dr
  replace hM := hM.dr
  replace hA := hA.drR
  replace hb := hb.drew
  replace hI := hI.dr
  replace hgr := hgr.dr
  have hNl : NR < (World.drew _).heap.size := hr.lt
  generalize World.drew _ = V at hHeld hM hA hb hI hgr hNl ⊢
  clear hr hNR
  refine tkO 0 (.agg (suS.c (.slice va1 1 vc1))) (by simp only [gT, gZ]; rfl) (y_bk NR suS (.slice va1 1 vc1) (fun V hV => hV) rfl rfl) ?_
  simp only [Act.put, pA, pZ, pS]
  refine tkO 1 (.pointer (some ⟨b, 0, none⟩)) (by simp only [gT, gZ, gS]; rfl) (puO (by (intro w hSw; (try dsimp only at hSw); go_simp))) ?_
  simp only [Act.put, pA, pZ, pS]
  refine wpAnyH_ready (rs := [2, 7]) (by kernel_rfl) (by simp) ?_
  refine AllReadyH.cons (o := ?oi3) ?hi3 (fun K hK => ?b3) (AllReadyH.cons (o := ?oi4) ?hi4 (fun K hK => ?b4) AllReadyH.nil)
  case hi3 => (simp only [List.getElem?_toArray, List.getElem?_cons_zero, List.getElem?_cons_succ]; rfl)
  case hi4 => (simp only [List.getElem?_toArray, List.getElem?_cons_zero, List.getElem?_cons_succ]; rfl)
  case b3 =>
    rw [if_pos (by rfl)]
    (obtain ⟨ND, hND0⟩ : ∃ n, V.heap.size = n := ⟨_, rfl⟩)
    (with_reducible refine s_mkb 512 (by decide) ND ?_ ?_ ?_ ?_)
    · exact hND0
    · exact rfl
    · exact rfl
    intro V2 hD hbc hz
    rw [← hND0] at hbc
    clear hz hND0
    have hH2 := hide (hHeld.bl hbc)
    replace hA := hA.bl hbc
    replace hb := hb.trans (hbc.mono (by have := hM.base; omega))
    replace hM := hM.bl hbc
    replace hI := hI.bl hbc
    replace hgr := hgr.bl hbc
    replace hNl := Nat.lt_of_lt_of_le hNl hbc.size
    clear hHeld hbc
    refine hK.out _ _ ?_ (fun hHeld => ?_)
    · exact hH2.out
    clear hK K
    clear hH2
    refine wpAnyH_ready (rs := [3, 7]) (by kernel_rfl) (by simp) ?_
    refine AllReadyH.cons (o := ?oi5) ?hi5 (fun K hK => ?b5) (AllReadyH.cons (o := ?oi6) ?hi6 (fun K hK => ?b6) AllReadyH.nil)
    case hi5 => (simp only [List.getElem?_toArray, List.getElem?_cons_zero, List.getElem?_cons_succ]; rfl)
    case hi6 => (simp only [List.getElem?_toArray, List.getElem?_cons_zero, List.getElem?_cons_succ]; rfl)
    case b5 =>
      rw [if_pos (by rfl)]
      go_simp
      (with_reducible refine (HFi.out _ _ _ _ _ _ _ hM hA hI hD).mono ?_)
      rintro e V4 ⟨v2, O3, rfl, hW3, hI2⟩
      have hH2 := hide (hW3.row hHeld hnr)
      (have hv2o := own_one hI2.row)
      replace hb := hb.trans (hW3.below.mono (by omega))
      replace hgr := hW3.row hgr hgo
      replace hNl := Nat.lt_of_lt_of_le hNl hW3.size
      (have hBl : B + 1 + 1 ≤ V4.heap.size := by omega)
      (obtain ⟨va2, vc2, rfl⟩ := in_none hI2)
      clear hM hA hI hD hW3 hHeld hI2
      go_simp
      refine hK.out _ _ ?_ (fun hHeld => ?_)
      · exact hH2.out
      clear hK K
      clear hH2
      refine tkO 4 (.tuple #[.agg (suT.c (.slice va2 0 vc2)), .nilIface]) (by simp only [gT, gZ, gS]; rfl) (puO (by (intro w hSw; (try dsimp only at hSw); go_simp))) ?_
      simp only [Act.put, pA, pZ, pS]
      refine tkO 5 (.agg (suT.c (.slice va2 0 vc2))) (by simp only [gT, gZ, gS]; rfl) (puO (by (intro w hSw; (try dsimp only at hSw); go_simp))) ?_
      simp only [Act.put, pA, pZ, pS]
      refine tkO 6 (.nilIface) (by simp only [gT, gZ, gS]; rfl) (puO (by (intro w hSw; (try dsimp only at hSw); go_simp))) ?_
      simp only [Act.put, pA, pZ, pS]
      refine skO 7 (by simp only [gT, gZ, gS]; rfl) (fun K hK => ?_)
      rw [if_pos (by rfl)]
      (obtain ⟨NT, hNT0⟩ : ∃ n, V4.heap.size = n := ⟨_, rfl⟩)
      (with_reducible refine s_alc NT ?_ (zeroBk.c nilS) zero_bk ?_)
      · exact hNT0
      intro V3 ht hbc hz
      rw [← hNT0] at hbc
      (have hNRT : NR < NT := hNT0 ▸ hNl)
      (have hgT : ga < NT := hNT0 ▸ hgr.lt)
      skip
      clear hz hNT0
      have hH2 := hide (hHeld.bl hbc)
      replace hb := hb.trans (hbc.mono (by omega))
      replace hgr := hgr.bl hbc
      replace hNl := Nat.lt_of_lt_of_le hNl hbc.size
      clear hHeld hbc
      refine hK.out _ _ ?_ (fun hHeld => ?_)
      · exact hH2.out
      clear hK K
      clear hH2
      refine skO 8 (by simp only [gT, gZ, gS]; rfl) (fun K hK => ?_)
      rw [if_pos (by rfl)]
      (with_reducible refine s_bk NT _ _ suT (.slice va2 0 vc2) hv2o ht ?_ ?_ ?_)
      · exact rfl
      · exact rfl
      intro V5 hnew hoo
      have hH2 := hide (hHeld.only hoo (by omega))
      replace hgr := hgr.only hoo (by omega)
      replace hb := hoo.bel _ _ (by omega) hb
      (have ht := hnew)
      clear hHeld hoo hnew
      refine hK.out _ _ ?_ (fun hHeld => ?_)
      · exact hH2.out
      clear hK K
      clear hH2
      refine tkO 9 (.nilIface) (by simp only [gT, gZ, gS]; rfl) (puO (by (intro w hSw; (try dsimp only at hSw); go_simp))) ?_
      simp only [Act.put, pA, pZ, pS]
      refine wpAnyH_done (by kernel_rfl) ?_ _
      go_simp
      go_wp2_with (first | ((with_reducible refine ldc_u32 ga 2 _ cur _ hgr k2 ?_ ?_ ?_); exact rfl; exact rfl) | ((with_reducible refine ldc_int ga 3 _ cur _ hgr k3 ?_ ?_ ?_); exact rfl; exact rfl) | ((with_reducible refine ldc_bool ga 1 _ cur _ hgr k1 ?_ ?_ ?_); exact rfl; exact rfl) | ((with_reducible refine ld_bin NR suS _ _ hHeld ?_ ?_ ?_); exact rfl; exact rfl) | ((with_reducible refine ld_bin NT suT _ _ ht ?_ ?_ ?_); exact rfl; exact rfl) | ((with_reducible refine ldc_u32 NT 4 1 _ _ ht rfl ?_ ?_ ?_); exact rfl; exact rfl))
      go_ret
      exact ⟨rfl, hb⟩
    case b6 =>
      rw [if_pos (by rfl)]
      (obtain ⟨NT, hNT0⟩ : ∃ n, V2.heap.size = n := ⟨_, rfl⟩)
      (with_reducible refine s_alc NT ?_ (zeroBk.c nilS) zero_bk ?_)
      · exact hNT0
      intro V3 ht hbc hz
      rw [← hNT0] at hbc
      (have hNRT : NR < NT := hNT0 ▸ hNl)
      (have hgT : ga < NT := hNT0 ▸ hgr.lt)
      (have hnt : ¬ O2 NT := fun e => absurd (hM.lt _ e) (by omega))
      clear hz hNT0
      have hH2 := hide (hHeld.bl hbc)
      replace hA := hA.bl hbc
      replace hb := hb.trans (hbc.mono (by have := hM.base; omega))
      replace hM := hM.bl hbc
      replace hI := hI.bl hbc
      replace hgr := hgr.bl hbc
      replace hNl := Nat.lt_of_lt_of_le hNl hbc.size
      replace hD := own_bel hD hbc
      clear hHeld hbc
      refine hK.out _ _ ?_ (fun hHeld => ?_)
      · exact hH2.out
      clear hK K
      clear hH2
      refine skO 3 (by simp only [gT, gZ, gS]; rfl) (fun K hK => ?_)
      rw [if_pos (by rfl)]
      go_simp
      (with_reducible refine (HFi.out _ _ _ _ _ _ _ hM hA hI hD).mono ?_)
      rintro e V4 ⟨v2, O3, rfl, hW3, hI2⟩
      have hH2 := hide (hW3.row hHeld hnr)
      (have hv2o := own_one hI2.row)
      replace ht := hW3.row ht hnt
      replace hb := hb.trans (hW3.below.mono (by omega))
      replace hgr := hW3.row hgr hgo
      replace hNl := Nat.lt_of_lt_of_le hNl hW3.size
      (have hBl : B + 1 + 1 ≤ V4.heap.size := by omega)
      (obtain ⟨va2, vc2, rfl⟩ := in_none hI2)
      clear hM hA hI hD hW3 hHeld hI2
      go_simp
      refine hK.out _ _ ?_ (fun hHeld => ?_)
      · exact hH2.out
      clear hK K
      clear hH2
      refine tkO 4 (.tuple #[.agg (suT.c (.slice va2 0 vc2)), .nilIface]) (by simp only [gT, gZ, gS]; rfl) (puO (by (intro w hSw; (try dsimp only at hSw); go_simp))) ?_
      simp only [Act.put, pA, pZ, pS]
      refine tkO 5 (.agg (suT.c (.slice va2 0 vc2))) (by simp only [gT, gZ, gS]; rfl) (puO (by (intro w hSw; (try dsimp only at hSw); go_simp))) ?_
      simp only [Act.put, pA, pZ, pS]
      refine tkO 6 (.nilIface) (by simp only [gT, gZ, gS]; rfl) (puO (by (intro w hSw; (try dsimp only at hSw); go_simp))) ?_
      simp only [Act.put, pA, pZ, pS]
      refine skO 8 (by simp only [gT, gZ, gS]; rfl) (fun K hK => ?_)
      rw [if_pos (by rfl)]
      (with_reducible refine s_bk NT _ _ suT (.slice va2 0 vc2) hv2o ht ?_ ?_ ?_)
      · exact rfl
      · exact rfl
      intro V5 hnew hoo
      have hH2 := hide (hHeld.only hoo (by omega))
      replace hgr := hgr.only hoo (by omega)
      replace hb := hoo.bel _ _ (by omega) hb
      (have ht := hnew)
      clear hHeld hoo hnew
      refine hK.out _ _ ?_ (fun hHeld => ?_)
      · exact hH2.out
      clear hK K
      clear hH2
      refine tkO 9 (.nilIface) (by simp only [gT, gZ, gS]; rfl) (puO (by (intro w hSw; (try dsimp only at hSw); go_simp))) ?_
      simp only [Act.put, pA, pZ, pS]
      refine wpAnyH_done (by kernel_rfl) ?_ _
      go_simp
      go_wp2_with (first | ((with_reducible refine ldc_u32 ga 2 _ cur _ hgr k2 ?_ ?_ ?_); exact rfl; exact rfl) | ((with_reducible refine ldc_int ga 3 _ cur _ hgr k3 ?_ ?_ ?_); exact rfl; exact rfl) | ((with_reducible refine ldc_bool ga 1 _ cur _ hgr k1 ?_ ?_ ?_); exact rfl; exact rfl) | ((with_reducible refine ld_bin NR suS _ _ hHeld ?_ ?_ ?_); exact rfl; exact rfl) | ((with_reducible refine ld_bin NT suT _ _ ht ?_ ?_ ?_); exact rfl; exact rfl) | ((with_reducible refine ldc_u32 NT 4 1 _ _ ht rfl ?_ ?_ ?_); exact rfl; exact rfl))
      go_ret
      exact ⟨rfl, hb⟩
  case b4 =>
    rw [if_pos (by rfl)]
    (obtain ⟨NT, hNT0⟩ : ∃ n, V.heap.size = n := ⟨_, rfl⟩)
    (with_reducible refine s_alc NT ?_ (zeroBk.c nilS) zero_bk ?_)
    · exact hNT0
    intro V3 ht hbc hz
    rw [← hNT0] at hbc
    (have hNRT : NR < NT := hNT0 ▸ hNl)
    (have hgT : ga < NT := hNT0 ▸ hgr.lt)
    (have hnt : ¬ O2 NT := fun e => absurd (hM.lt _ e) (by omega))
    clear hz hNT0
    have hH2 := hide (hHeld.bl hbc)
    replace hA := hA.bl hbc
    replace hb := hb.trans (hbc.mono (by have := hM.base; omega))
    replace hM := hM.bl hbc
    replace hI := hI.bl hbc
    replace hgr := hgr.bl hbc
    replace hNl := Nat.lt_of_lt_of_le hNl hbc.size
    clear hHeld hbc
    refine hK.out _ _ ?_ (fun hHeld => ?_)
    · exact hH2.out
    clear hK K
    clear hH2
    refine skO 2 (by simp only [gT, gZ, gS]; rfl) (fun K hK => ?_)
    rw [if_pos (by rfl)]
    (obtain ⟨ND, hND0⟩ : ∃ n, V3.heap.size = n := ⟨_, rfl⟩)
    (with_reducible refine s_mkb 512 (by decide) ND ?_ ?_ ?_ ?_)
    · exact hND0
    · exact rfl
    · exact rfl
    intro V2 hD hbc hz
    rw [← hND0] at hbc
    clear hz hND0
    have hH2 := hide (hHeld.bl hbc)
    replace hA := hA.bl hbc
    replace hb := hb.trans (hbc.mono (by have := hM.base; omega))
    replace hM := hM.bl hbc
    replace hI := hI.bl hbc
    replace hgr := hgr.bl hbc
    replace hNl := Nat.lt_of_lt_of_le hNl hbc.size
    replace ht := ht.bl hbc
    clear hHeld hbc
    refine hK.out _ _ ?_ (fun hHeld => ?_)
    · exact hH2.out
    clear hK K
    clear hH2
    refine skO 3 (by simp only [gT, gZ, gS]; rfl) (fun K hK => ?_)
    rw [if_pos (by rfl)]
    go_simp
    (with_reducible refine (HFi.out _ _ _ _ _ _ _ hM hA hI hD).mono ?_)
    rintro e V4 ⟨v2, O3, rfl, hW3, hI2⟩
    have hH2 := hide (hW3.row hHeld hnr)
    (have hv2o := own_one hI2.row)
    replace ht := hW3.row ht hnt
    replace hb := hb.trans (hW3.below.mono (by omega))
    replace hgr := hW3.row hgr hgo
    replace hNl := Nat.lt_of_lt_of_le hNl hW3.size
    (have hBl : B + 1 + 1 ≤ V4.heap.size := by omega)
    (obtain ⟨va2, vc2, rfl⟩ := in_none hI2)
    clear hM hA hI hD hW3 hHeld hI2
    go_simp
    refine hK.out _ _ ?_ (fun hHeld => ?_)
    · exact hH2.out
    clear hK K
    clear hH2
    refine tkO 4 (.tuple #[.agg (suT.c (.slice va2 0 vc2)), .nilIface]) (by simp only [gT, gZ, gS]; rfl) (puO (by (intro w hSw; (try dsimp only at hSw); go_simp))) ?_
    simp only [Act.put, pA, pZ, pS]
    refine tkO 5 (.agg (suT.c (.slice va2 0 vc2))) (by simp only [gT, gZ, gS]; rfl) (puO (by (intro w hSw; (try dsimp only at hSw); go_simp))) ?_
    simp only [Act.put, pA, pZ, pS]
    refine tkO 6 (.nilIface) (by simp only [gT, gZ, gS]; rfl) (puO (by (intro w hSw; (try dsimp only at hSw); go_simp))) ?_
    simp only [Act.put, pA, pZ, pS]
    refine skO 8 (by simp only [gT, gZ, gS]; rfl) (fun K hK => ?_)
    rw [if_pos (by rfl)]
    (with_reducible refine s_bk NT _ _ suT (.slice va2 0 vc2) hv2o ht ?_ ?_ ?_)
    · exact rfl
    · exact rfl
    intro V5 hnew hoo
    have hH2 := hide (hHeld.only hoo (by omega))
    replace hgr := hgr.only hoo (by omega)
    replace hb := hoo.bel _ _ (by omega) hb
    (have ht := hnew)
    clear hHeld hoo hnew
    refine hK.out _ _ ?_ (fun hHeld => ?_)
    · exact hH2.out
    clear hK K
    clear hH2
    refine tkO 9 (.nilIface) (by simp only [gT, gZ, gS]; rfl) (puO (by (intro w hSw; (try dsimp only at hSw); go_simp))) ?_
    simp only [Act.put, pA, pZ, pS]
    refine wpAnyH_done (by kernel_rfl) ?_ _
    go_simp
    go_wp2_with (first | ((with_reducible refine ldc_u32 ga 2 _ cur _ hgr k2 ?_ ?_ ?_); exact rfl; exact rfl) | ((with_reducible refine ldc_int ga 3 _ cur _ hgr k3 ?_ ?_ ?_); exact rfl; exact rfl) | ((with_reducible refine ldc_bool ga 1 _ cur _ hgr k1 ?_ ?_ ?_); exact rfl; exact rfl) | ((with_reducible refine ld_bin NR suS _ _ hHeld ?_ ?_ ?_); exact rfl; exact rfl) | ((with_reducible refine ld_bin NT suT _ _ ht ?_ ?_ ?_); exact rfl; exact rfl) | ((with_reducible refine ldc_u32 NT 4 1 _ _ ht rfl ?_ ?_ ?_); exact rfl; exact rfl))
    go_ret
    exact ⟨rfl, hb⟩
end Go.Proofs.YtaaiockiojejeaaGreatDoor
namespace Go.Proofs.YtaaiockiojejeaaGreatDoor
open Go.RowKit
set_option linter.unusedVariables false
set_option linter.unusedSimpArgs false

theorem txt_emptyB (W : World) (a : Option Addr) (c : Nat) : (convert 37 9 (.slice a 0 c)).run Tryz.prog W = .ok (.string ⟨#[]⟩) W := by
  cases a with
  | none => exact run_convert_bytes_nil (P := Tryz.prog) W 37 5 Tryz.underlying37 Tryz.underlying5 0 c 9 Tryz.underlying9
  | some a => exact run_convert_bytes_back W _ _ 5 a c [] Tryz.underlying37 Tryz.underlying5 Tryz.underlying9 (fun j hj => absurd hj (by simp))
theorem conv_in {W w : World} {B : Nat} {ba : Option Addr} {bl : List Nat} (h : BytesAt w B ba bl) (hb : Below B w W) (c : Nat) : (convert 37 9 (.slice ba bl.length c)).run Tryz.prog W = .ok (.string (txtR bl)) W := by
  rcases Nat.eq_zero_or_pos bl.length with e | e
  · obtain rfl : bl = [] := List.eq_nil_of_length_eq_zero e
    exact txt_emptyB W ba c
  · obtain ⟨b, o, rfl, hbb, hc⟩ := h.lies e
    have k := conv_row (w := W) (g := b) (o := o) (l := bl.length) (c := c) (f := fun j => (bl[j]?).getD 0) (fun j => by
      cases e : bl[j]? with
      | none => show (0 : Nat) < 256; decide
      | some y => exact h.small y (List.mem_of_getElem? e)) (fun j hj => by
      rw [hb.cell (p := ⟨b, o + j, none⟩) hbb, hc j hj, List.getElem?_eq_getElem hj]; rfl)
    rw [getD_range] at k
    exact k
def fulN (bl : List Nat) (i j : Nat) : Nat := if j < i then (bl[j]?).getD 0 else 0
def fulC (bl : List Nat) (i : Nat) : Array Value := ((List.range 512).map fun j => Value.int .u8 ((fulN bl i j : Nat) : Int)).toArray
def fulL (bl : List Nat) : List Nat := (List.range 512).map fun j => (bl[j]?).getD 0
theorem fulL_len (bl : List Nat) : (fulL bl).length = 512 := by simp [fulL]
theorem fulL_small {bl : List Nat} (h : ∀ y ∈ bl, y < 256) : ∀ y ∈ fulL bl, y < 256 := by
  intro y hy
  obtain ⟨j, _, rfl⟩ := List.mem_map.1 hy
  cases e : bl[j]? with
  | none => decide
  | some x => exact h x (List.mem_of_getElem? e)
theorem fulC_size (bl : List Nat) (i : Nat) : (fulC bl i).size = 512 := by simp [fulC]
theorem fulC_at (bl : List Nat) (i j : Nat) (hj : j < 512) : (fulC bl i)[j]? = some (.int .u8 ((fulN bl i j : Nat) : Int)) := by
  simp [fulC, List.getElem?_toArray, List.getElem?_range hj]
theorem fulC_made (bl : List Nat) : madeCells #[.int .u8 0] 512 = fulC bl 0 := by
  apply Array.toList_inj.1
  rw [toList_madeCells_one]
  apply List.ext_getElem?
  intro j
  rcases Nat.lt_or_ge j 512 with h | h
  · rw [show (fulC bl 0).toList[j]? = (fulC bl 0)[j]? from Array.getElem?_toList, fulC_at bl 0 j h, List.getElem?_replicate, if_pos h]; rfl
  · rw [List.getElem?_eq_none (by rw [List.length_replicate]; omega), List.getElem?_eq_none (by rw [Array.length_toList, fulC_size]; omega)]
theorem fulC_step (bl : List Nat) (i : Nat) (hi : i < 512) (x : Nat) (hx : bl[i]? = some x) : (fulC bl i).setIfInBounds i (.int .u8 (x : Nat)) = fulC bl (i + 1) := by
  apply Array.ext_getElem?
  intro j
  rcases Nat.lt_or_ge j 512 with h | h
  · rw [fulC_at bl (i + 1) j h, Array.getElem?_setIfInBounds]
    by_cases e : i = j
    · subst e
      rw [if_pos rfl, if_pos (by rw [fulC_size]; exact h)]
      unfold fulN
      rw [if_pos (by omega), hx]; rfl
    · rw [if_neg e, fulC_at bl i j h]
      unfold fulN
      by_cases q : j < i
      · rw [if_pos q, if_pos (by omega)]
      · rw [if_neg q, if_neg (by omega)]
  · rw [Array.getElem?_eq_none (by simp [fulC_size]; omega), Array.getElem?_eq_none (by rw [fulC_size]; omega)]
theorem fulC_end (bl : List Nat) (i : Nat) (h : bl.length ≤ i ∨ 512 ≤ i) : (fulC bl i).toList = byteV (fulL bl) := by
  unfold fulC fulL byteV
  rw [List.map_map]
  apply List.map_congr_left
  intro j hj
  have hj := List.mem_range.1 hj
  show Value.int .u8 ((fulN bl i j : Nat) : Int) = Value.int .u8 (((bl[j]?).getD 0 : Nat) : Int)
  unfold fulN
  split
  · rfl
  · rw [List.getElem?_eq_none (by omega)]; rfl
theorem ful_own {W : World} {N : Nat} {cur : Array Value} {l : List Nat} (hr : RowAt W N cur 5) (hc : cur.toList = byteV l) (hl : l.length = 512) : W.ownsRow N 5 1 (.slice (some ⟨N, 0, none⟩) 512 512) 512 (byteV l) := by
  have hs : cur.size = 512 := by rw [← Array.length_toList, hc, byteV_len, hl]
  exact ⟨by rw [byteV_len, hl], .inr ⟨N, 512, cur, rfl, Nat.le_refl _, hr, Nat.le_refl _, by unfold maxLen; decide, by rw [hs], by rw [← hc, List.take_of_length_le (by rw [Array.length_toList, hs]; exact Nat.le_refl _)]⟩⟩
theorem ful_cell {W : World} {N : Nat} {cur : Array Value} {l : List Nat} (hr : RowAt W N cur 5) (hc : cur.toList = byteV l) (j : Nat) (v : Value) (hj : (byteV l)[j]? = some v) : W.cell? ⟨N, j, none⟩ = some v := by
  rw [hr.cell, ← Array.getElem?_toList, hc]; exact hj
variable {ops : Array Oper} {rest : List Oper} {dst : Option Tmp} {ty t t2 : TypeId} {pos : String} {after : Array Edge} {a : Act} {w : World} {Q : Exit → Act → World → Prop} {K : Act → World → Prop} {x y : Operand} {gd : Option (Nat × Bool)} {S : World → Prop}
theorem mk_r (n : Nat) (hn : n ≤ 1000000) (N : Nat) (hN : w.heap.size = N) (hx : a.eval x = .int .i64 (n : Nat)) (hy : a.eval y = .int .i64 (n : Nat))
    (k : ∀ W, RowAt W N (madeCells #[.int .u8 0] n) 5 → Below N w W → Hid (W.heap.size = N + 1) → wpList Tryz.prog ops Q rest (a.put dst (.slice (some ⟨N, 0, none⟩) n n)) W) :
    wpList Tryz.prog ops Q (⟨dst, .makeSlice 37 x y, ty, pos, after, none⟩ :: rest) a w := by
  refine wpList_plain rfl fun K2 hK => ?_
  subst hN
  have : (execOp a.eval ⟨dst, .makeSlice 37 x y, ty, pos, after, none⟩).run Tryz.prog w = .ok (.value (.slice (some ⟨w.heap.size, 0, none⟩) n n)) (w.alloc (.cells (madeCells #[.int .u8 0] n) 5)) := by
    unfold execOp
    simp only [hx, hy, Sem.run_bind, made_b w n hn, Result.andThen_ok, Sem.run_pure]
  unfold Oper.wp
  rw [this, Oper.upon_value]
  exact hK _ _ (k _ (RowAt.new w _ _ _ rfl) (below_one w _) (hide (by simp)))
theorem st_ful (b i : Nat) (x' : Nat) (old cs : Array Value) (hr : RowAt w b old 5) (hi : i < old.size) (hp : old.setIfInBounds i (.int .u8 (x' : Nat)) = cs) (hx : a.eval x = .pointer (some ⟨b, i, none⟩)) (hy : a.eval y = .int .u8 (x' : Nat))
    (k : ∀ W, RowAt W b cs 5 → Only b w W → wpList Tryz.prog ops Q rest (a.put dst undef) W) : wpList Tryz.prog ops Q (⟨dst, .store 5 x y, ty, pos, after, none⟩ :: rest) a w :=
  op_store_cell b i hx _ hy old cs _ hr (by kernel_rfl) hi rfl hp k
theorem y_cellg {P : Program} (b j : Nat) (v : Value) (hS : ∀ V, S V → V.cell? ⟨b, j, none⟩ = some v) (d : TypeDesc) (hu : P.underlying t = some d) (hd : d.isRow = false) (hx : a.eval x = .pointer (some ⟨b, j, none⟩)) (hw : Region.wanted ⟨dst, .load t x, ty, pos, after, gd⟩ (yielded ops a.tmps) = true) :
    YieldsIf P ops S ⟨dst, .load t x, ty, pos, after, gd⟩ v a := by
  rcases y_cell (ops := ops) (P := P) (t := t) (dst := dst) (ty := ty) (after := after) (a := a) (x := x) (pos := pos) (S := S) b j v hS d hu hd hx with ⟨_, h2⟩ | ⟨h1, _⟩
  · exact .inl ⟨hw, fun V hV => h2 V hV⟩
  · simp [Region.wanted] at h1
end Go.Proofs.YtaaiockiojejeaaGreatDoor
namespace Go.Proofs.YtaaiockiojejeaaGreatDoor
open Go.RowKit
set_option linter.unusedVariables false
set_option linter.unusedSimpArgs false

/-- Bytes that lie in a block. -/
structure CellsAt (W : World) (N : Nat) (l : List Nat) : Prop where
  h : ∀ (j : Nat) (v : Value), (byteV l)[j]? = some v → N < W.heap.size ∧ W.cell? ⟨N, j, none⟩ = some v
theorem CellsAt.bl {W V : World} {N : Nat} {l : List Nat} (h : CellsAt W N l) (hb : Below W.heap.size W V) : CellsAt V N l :=
  ⟨fun j v hj => ⟨Nat.lt_of_lt_of_le (h.h j v hj).1 hb.size, (hb.cell (p := ⟨N, j, none⟩) (h.h j v hj).1).trans (h.h j v hj).2⟩⟩
theorem CellsAt.dr {W : World} {N : Nat} {l : List Nat} (h : CellsAt W N l) : CellsAt W.drew N l := ⟨fun j v hj => h.h j v hj⟩
theorem CellsAt.went {W V : World} {N B : Nat} {O O' : Nat → Prop} {l : List Nat} (h : CellsAt W N l) (hw : Went B O O' W V) (hn : ¬ O N) : CellsAt V N l :=
  ⟨fun j v hj => ⟨Nat.lt_of_lt_of_le (h.h j v hj).1 hw.size, (cell_of_heap (hw.other N (h.h j v hj).1 hn) j).trans (h.h j v hj).2⟩⟩
theorem BytesAt.bl {W V : World} {la : Option Addr} {l : List Nat} (h : BytesAt W W.heap.size la l) (hb : Below W.heap.size W V) : BytesAt V V.heap.size la l :=
  ⟨fun e => by
    obtain ⟨b, o, e1, e2, e3⟩ := h.lies e
    exact ⟨b, o, e1, Nat.lt_of_lt_of_le e2 hb.size, fun j hj => (hb.cell (p := ⟨b, o + j, none⟩) e2).trans (e3 j hj)⟩, h.small⟩
theorem ful_cells {W : World} {N : Nat} {cur : Array Value} {l : List Nat} (hr : RowAt W N cur 5) (hc : cur.toList = byteV l) : CellsAt W N l := ⟨fun j v hj => ⟨hr.lt, ful_cell hr hc j v hj⟩⟩
theorem read_cells {W : World} {B b c : Nat} {f : Nat → Nat} {O : Nat → Prop} (hM : RamB W B b 2 f c O) (a n : Nat) (ha : a + n ≤ 8192) (l : List Nat) (hl : l.length = n) (hf : ∀ j, j < n → f (a + j) = (l[j]?).getD 0) :
    Calls Tryz.prog 14 #[.pointer (some ⟨b, 0, none⟩), .int .u32 (a : Nat), .int .i64 (n : Nat)] W fun e w' => e = .returned (.tuple #[.slice (some ⟨W.heap.size, 0, none⟩) n n, .nilIface]) ∧ CellsAt w' W.heap.size l ∧ ∃ O', RamB w' B b 2 f c O' ∧ Went B O O' W w' ∧ ¬ O' W.heap.size := by
  rcases Nat.eq_zero_or_pos n with e | e
  · subst e
    obtain rfl : l = [] := List.eq_nil_of_length_eq_zero hl
    refine (read_none b a W).mono ?_
    rintro e w' ⟨rfl, hb⟩
    exact ⟨rfl, ⟨fun j v hj => by simp [byteV] at hj⟩, O, hM.bl hb, Went.of hb hM.base, fun k => absurd (hM.lt _ k) (by omega)⟩
  · refine (read_b hM a (by omega) n e (by omega)).mono ?_
    rintro e w' ⟨rfl, hh, O', h1, h2, h3⟩
    refine ⟨rfl, ⟨fun j v hj => ⟨hh.lt, ?_⟩⟩, O', h1, h2, h3⟩
    have hj' : j < n := by have := (List.getElem?_eq_some_iff.1 hj).1; rw [byteV_len, hl] at this; exact this
    rw [hh.cell hj', hf j hj', ← hj]
    simp only [byteV, List.getElem?_map, List.getElem?_eq_getElem (show j < l.length by omega), Option.map_some, Option.getD_some]
variable {ops : Array Oper} {rest : List Oper} {dst : Option Tmp} {ty t t2 : TypeId} {pos : String} {after : Array Edge} {a : Act} {w : World} {Q : Exit → Act → World → Prop} {K : Act → World → Prop} {x y : Operand}
theorem s_conv {P : Program} (v r : Value) (hr : (convert t t2 v).run P w = .ok r w) (hx : a.eval x = v) (k : K (a.put dst r) w) : Oper.wp P ⟨dst, .convert t t2 x, ty, pos, after, none⟩ a w K Q := by
  have : (execOp a.eval ⟨dst, .convert t t2 x, ty, pos, after, none⟩).run P w = .ok (.value r) w := by
    unfold execOp
    simp only [hx, Sem.run_bind, hr, Result.andThen_ok, Sem.run_pure]
  unfold Oper.wp
  rw [this, Oper.upon_value]
  exact k
/-- Append, where there is no room: bytes in a new block. -/
theorem s_appg (g n g2 m sc r : Nat) (hr0 : n + m = r) (l1 l2 l : List Nat) (h1 : CellsAt w g l1) (h2 : CellsAt w g2 l2) (hl1 : l1.length = n) (hl2 : l2.length = m) (hm : 0 < m) (hn : n + m ≤ 1000000) (hs : ∀ y ∈ l, y < 256) (hl : l1 ++ l2 = l) (hx : a.eval x = .slice (some ⟨g, 0, none⟩) n n) (hy : a.eval y = .slice (some ⟨g2, 0, none⟩) m sc)
    (k : ∀ W N cap, BytesAt W W.heap.size (some ⟨N, 0, none⟩) l → Below w.heap.size w W → K (a.put dst (.slice (some ⟨N, 0, none⟩) r cap)) W) :
    Oper.wp Tryz.prog ⟨dst, .call { callee := .builtin .append, args := #[x, y], argTypes := #[37, 37] }, 37, pos, after, none⟩ a w K Q := by
  subst hr0
  obtain ⟨i, i1, i2, i3, i4⟩ := info_b
  have hrun := run_append_grow (P := Tryz.prog) w 37 37 5 i (.int .u8 0) Tryz.underlying37 i1 i2 ⟨g, 0, none⟩ n n (byteV l1) (by rw [byteV_len, hl1, i3]; omega) (fun j v hj => by
    rw [Addr.add_lit, Nat.zero_add]; exact (h1.h j v hj).2) ⟨g2, 0, none⟩ m sc (byteV l2) (by rw [byteV_len, hl2, i3]; omega) (fun j v hj => by
    rw [Addr.add_lit, Nat.zero_add]; exact (h2.h j v hj).2) (by omega) (by omega) (by rw [i4]; exact growslice_fits (by omega) (by omega))
  unfold Oper.wp
  have : (execOp a.eval ⟨dst, .call { callee := .builtin .append, args := #[x, y], argTypes := #[37, 37] }, 37, pos, after, none⟩).run Tryz.prog w = .ok (.value (.slice (some ⟨w.heap.size, 0, none⟩) (n + m) (grownCap w (n + m) n 5))) (w.drew.alloc (.cells ((byteV l1).toArray ++ (byteV l2).toArray ++ Builtin.zeroCells (Value.int .u8 0).cells (grownCap w (n + m) n 5 - (n + m))) 5)) := by
    simp [execOp, resolve, invoke, builtin, hx, hy, hrun, Result.andThen]
  rw [this, Oper.upon_value]
  refine k _ _ _ ⟨fun _ => ⟨w.heap.size, 0, rfl, by simp, fun j hj => ?_⟩, hs⟩ ((Below.refl _ w).drew.trans (below_one w.drew _))
  subst hl
  have hr : RowAt (w.drew.alloc (.cells ((byteV l1).toArray ++ (byteV l2).toArray ++ Builtin.zeroCells (Value.int .u8 0).cells (grownCap w (n + m) n 5 - (n + m))) 5)) w.heap.size _ 5 := RowAt.new w.drew _ _ _ rfl
  rw [Nat.zero_add, hr.cell, Array.getElem?_append_left (by simp [byteV]; simpa using hj)]
  simp only [List.append_toArray, List.getElem?_toArray]
  rw [← byteV_append]
  simp only [byteV, List.getElem?_map, List.getElem?_eq_getElem hj, Option.map_some]
end Go.Proofs.YtaaiockiojejeaaGreatDoor
