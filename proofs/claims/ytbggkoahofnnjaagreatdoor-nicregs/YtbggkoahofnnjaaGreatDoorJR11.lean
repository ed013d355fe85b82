/-
  The document's Write: no queue.
-/
import Derived.Test.YtbggkoahofnnjaaGreatDoorJR10
import Derived.Test.YtbggkoahofnnjaaGreatDoorJR9
open Go.Proofs.Tryz
set_option linter.unusedVariables false
set_option linter.unusedSimpArgs false
namespace Go.Proofs.YtbggkoahofnnjaaGreatDoor
open Go.RowKit
set_option maxHeartbeats 2000000
attribute [local go_sem] V.at0 V.at1 V.at2 V.at3 V.at4 V.at5 V.at6 V.at7 V.at8 V.at9 V.at10 V.at11 V.at12 V.at13 V.at14 V.at15 V.at16 V.at17 V.at18 V.at19 V.at20 Qu.at0 Qu.at1 Qu.at2 Qu.at3 Qu.at4 Qu.at5 Qu.at6
def bare (s : V) : V := (s.q0w zeroQu).q1w zeroQu
theorem built_v (s : V) : prog.built 39 [(0, .int .u32 (s.st : Nat)), (1, .int .u32 (s.fs : Nat)), (2, .int .u32 (s.ds : Nat)), (3, .int .u32 (s.se : Nat)), (4, .int .u32 (s.ir : Nat)), (5, .agg s.drv)] = some (bare s).cells := by kernel_rfl
theorem built_q (q : Qu) : prog.built 36 [(0, .bool q.rd), (1, .agg q.r.cells)] = some q.cells := by kernel_rfl
theorem bd_v {ops : Array Oper} {rest : List Oper} {dst : Option Tmp} {ty : TypeId} {pos : String} {after : Array Edge} {a : Act} {w : World} {Q : Exit → Act → World → Prop} {x0 x1 x2 x3 x4 x5 : Operand} (s : V) (h0 : a.eval x0 = .int .u32 (s.st : Nat)) (h1 : a.eval x1 = .int .u32 (s.fs : Nat)) (h2 : a.eval x2 = .int .u32 (s.ds : Nat)) (h3 : a.eval x3 = .int .u32 (s.se : Nat)) (h4 : a.eval x4 = .int .u32 (s.ir : Nat)) (h5 : a.eval x5 = .agg s.drv)
    (k : wpList prog ops Q rest (a.put dst (.agg (bare s).cells)) w) : wpList prog ops Q (⟨dst, .build 39 #[(0, x0), (1, x1), (2, x2), (3, x3), (4, x4), (5, x5)], ty, pos, after, none⟩ :: rest) a w := by
  have hp : ((#[(0, x0), (1, x1), (2, x2), (3, x3), (4, x4), (5, x5)] : Array (Nat × Operand)).map fun (i, x) => (i, a.eval x)).toList = [(0, .int .u32 (s.st : Nat)), (1, .int .u32 (s.fs : Nat)), (2, .int .u32 (s.ds : Nat)), (3, .int .u32 (s.se : Nat)), (4, .int .u32 (s.ir : Nat)), (5, .agg s.drv)] := by
    simp [h0, h1, h2, h3, h4, h5]
  refine wpList_build rfl 39 _ rfl ?_ ?_
  · rw [hp, built_v]; rfl
  · rw [hp, built_v]; exact k
theorem y_bdv {P : Program} {ops : Array Oper} {dst : Option Tmp} {ty t : TypeId} {pos : String} {after : Array Edge} {a : Act} {S : World → Prop} {xs : Array (Nat × Operand)} (ps : List (Nat × Value)) (cs : Array Value) (hb : P.built t ps = some cs) (hp : (xs.map fun (i, x) => (i, a.eval x)).toList = ps) :
    YieldsIf P ops S ⟨dst, .build t xs, ty, pos, after, none⟩ (.agg cs) a :=
  .inl ⟨by simp [Region.wanted], fun V hV => by
    have h := run_build V t (xs.map fun (i, x) => (i, a.eval x)) cs (by rw [hp]; exact hb)
    unfold execOp
    simp only [Sem.run_bind, h, Result.andThen_ok, Sem.run_pure]⟩
theorem y_bdq {ops : Array Oper} {dst : Option Tmp} {ty : TypeId} {pos : String} {after : Array Edge} {a : Act} {S : World → Prop} {x0 x1 : Operand} (q : Qu) (h0 : a.eval x0 = .bool q.rd) (h1 : a.eval x1 = .agg q.r.cells) :
    YieldsIf prog ops S ⟨dst, .build 36 #[(0, x0), (1, x1)], ty, pos, after, none⟩ (.agg q.cells) a := y_bdv _ q.cells (built_q q) (by simp [h0, h1])
theorem y_midv {P : Program} {ops : Array Oper} {dst : Option Tmp} {ty t : TypeId} {pos : String} {after : Array Edge} {a : Act} {S : World → Prop} {x : Operand} (b o : Nat) (C vs : Array Value) (t' : TypeId) (hS : ∀ V, S V → RowAt V b C t') (hv : (C.extract o (o + vs.size)).toList = vs.toList) (d : TypeDesc) (hu : P.underlying t = some d) (hd : d.isRow = true) (hi : (P.info? t).map (·.size) = some vs.size) (hx : a.eval x = .pointer (some ⟨b, o, none⟩)) :
    YieldsIf P ops S ⟨dst, .load t x, ty, pos, after, none⟩ (.agg vs) a :=
  .inl ⟨by simp [Region.wanted], fun V hV => by
    have hq := World.rangeAt_of_block (hS V hV) o vs.size
    rw [hv] at hq
    have h := run_loadVar_mid V b o t vs.toList d hq hu hd (by simpa using hi)
    unfold execOp
    simp only [hx, Instr.loadAt, Instr.sureAddr, Sem.run_bind, Sem.run_pure, Result.andThen_ok, h]⟩
def givK (s : V) (i : Nat) : V := if i = 0 then bare s else if i = 1 then (bare s).q0w s.q0 else s
theorem s_q0p {dst : Option Tmp} {ty : TypeId} {pos : String} {after : Array Edge} {a : Act} {w : World} {Q : Exit → Act → World → Prop} {x y : Operand} {K : Act → World → Prop} (b : Nat) (h : V) (f : Qu) (t' : TypeId) (hr : RowAt w b h.cells t') (hx : a.eval x = .pointer (some ⟨b, 7, none⟩)) (hy : a.eval y = .agg f.cells)
    (k : ∀ W, RowAt W b (h.q0w f).cells t' → Only b w W → K (a.put dst undef) W) : Oper.wp prog ⟨dst, .store 36 x y, ty, pos, after, none⟩ a w K Q :=
  wp_store_mid 36 x y rfl b 7 f.cells hx hy (hr.thereAt 7 _ (by show 7 + 7 ≤ 21; decide)) size_qp (qu_one f) (k _ (putAll_q0 h f ▸ RowAt.puts f.cells.toList 7 hr) (only_setCells b 7 f.cells.toList w))
theorem s_q1p {dst : Option Tmp} {ty : TypeId} {pos : String} {after : Array Edge} {a : Act} {w : World} {Q : Exit → Act → World → Prop} {x y : Operand} {K : Act → World → Prop} (b : Nat) (h : V) (f : Qu) (t' : TypeId) (hr : RowAt w b h.cells t') (hx : a.eval x = .pointer (some ⟨b, 14, none⟩)) (hy : a.eval y = .agg f.cells)
    (k : ∀ W, RowAt W b (h.q1w f).cells t' → Only b w W → K (a.put dst undef) W) : Oper.wp prog ⟨dst, .store 36 x y, ty, pos, after, none⟩ a w K Q :=
  wp_store_mid 36 x y rfl b 14 f.cells hx hy (hr.thereAt 14 _ (by show 14 + 7 ≤ 21; decide)) size_qp (qu_one f) (k _ (putAll_q1 h f ▸ RowAt.puts f.cells.toList 14 hr) (only_setCells b 14 f.cells.toList w))
set_option maxRecDepth 20000 in
theorem gport_any (s : V) (w : World) :
    Calls prog 22 #[.agg s.cells] w fun e w' => e = .returned (.agg s.cells) ∧ Below w.heap.size w w' := by
  go_enter func22, ntmps22
  go_wp2_with (first | ((with_reducible refine bx_vr w.heap.size s ?_ ?_ ?_); exact rfl; exact rfl; intro W hr hb hz) | ((with_reducible refine al_vp (w.heap.size + 1) ?_ ?_); exact hz.out; intro W hq hb' hz'; replace hr := hr.bl (hz.out ▸ hb'); replace hb := hb.trans (hb'.mono (by omega)); replace hz := hz'; have fx := hr.cell) | ((with_reducible refine al_vp (w.heap.size + 2) ?_ ?_); exact hz.out; intro W hx hb' hz'; replace hr := hr.bl (hz.out ▸ hb'); replace hq := hq.bl (hz.out ▸ hb'); replace hb := hb.trans (hb'.mono (by omega)); clear fx) | ((with_reducible refine ld_drv w.heap.size _ _ hr ?_ ?_ ?_); exact rfl; exact rfl) | ((with_reducible refine bd_v s ?_ ?_ ?_ ?_ ?_ ?_ ?_); exact rfl; exact rfl; exact rfl; exact rfl; exact rfl; exact rfl) | ((with_reducible refine st_vp (w.heap.size + 2) _ (bare s) hx ?_ ?_ ?_); exact rfl; exact rfl; intro W hnew ho; replace hr := hr.only ho (by omega); replace hq := hq.only ho (by omega); replace hx := hnew; replace hb := ho.bel _ _ (by omega) hb))
  go_loopw [4] (fun iv wr => ∃ i : Nat, i ≤ 2 ∧ iv = .int .i64 i ∧ RowAt wr w.heap.size s.cells 31 ∧ RowAt wr (w.heap.size + 1) zeroV.cells 39 ∧ RowAt wr (w.heap.size + 2) (givK s i).cells 39 ∧ Below w.heap.size w wr) (fun iv _ => 2 - (intOf iv).toNat)
  case atStart => exact ⟨0, by omega, rfl, hr, hq, hx, hb⟩
  case round =>
    clear hr hq hx hb hz
    obtain ⟨i, hi, rfl, hr, hq, hx, hb⟩ := hrel
    have hi3 : i = 0 ∨ i = 1 ∨ i = 2 := by omega
    rcases hi3 with rfl | rfl | rfl
    · go_wp2_with (fail)
      refine wp_region_held_drew (S := (fun V => RowAt V w.heap.size s.cells 31 ∧ Below w.heap.size w V)) (by kernel_rfl) ?_ (fun hHeld => ?_)
      · exact ⟨hr.dr, hb.drew⟩
      replace hq := hq.dr
      replace hx := hx.dr
      generalize World.drew _ = V at hHeld hq hx ⊢
      clear hr hb
      refine tkO 0 (.int .i64 0) (by simp only [gT, gZ]; rfl) (puO (by (intro w hSw; (try dsimp only at hSw); go_simp))) ?_
      simp only [Act.put, pA, pZ, pS]
      refine tkO 1 (.int .i64 0) (by simp only [gT, gZ, gS]; rfl) (puO (by (intro w hSw; (try dsimp only at hSw); go_simp))) ?_
      simp only [Act.put, pA, pZ, pS]
      refine tkO 2 (.pointer (some ⟨w.heap.size, 7, none⟩)) (by simp only [gT, gZ, gS]; rfl) (puO (by (intro w hSw; (try dsimp only at hSw); go_simp))) ?_
      simp only [Act.put, pA, pZ, pS]
      refine tkO 3 (.pointer (some ⟨w.heap.size, 7, none⟩)) (by simp only [gT, gZ, gS]; rfl) (puO (by (intro w hSw; (try dsimp only at hSw); go_simp))) ?_
      simp only [Act.put, pA, pZ, pS]
      refine tkO 4 (.pointer (some ⟨w.heap.size, 7, none⟩)) (by simp only [gT, gZ, gS]; rfl) (puO (by (intro w hSw; (try dsimp only at hSw); go_simp))) ?_
      simp only [Act.put, pA, pZ, pS]
      refine tkO 5 (.bool s.q0.rd) (by simp only [gT, gZ, gS]; rfl) (y_rd0 w.heap.size s _ (fun V hV => hV.1) rfl) ?_
      simp only [Act.put, pA, pZ, pS]
      refine tkO 6 (.int .i64 0) (by simp only [gT, gZ, gS]; rfl) (puO (by (intro w hSw; (try dsimp only at hSw); go_simp))) ?_
      simp only [Act.put, pA, pZ, pS]
      refine tkO 7 (.pointer (some ⟨w.heap.size, 7, none⟩)) (by simp only [gT, gZ, gS]; rfl) (puO (by (intro w hSw; (try dsimp only at hSw); go_simp))) ?_
      simp only [Act.put, pA, pZ, pS]
      refine tkO 8 (.pointer (some ⟨w.heap.size, 7, none⟩)) (by simp only [gT, gZ, gS]; rfl) (puO (by (intro w hSw; (try dsimp only at hSw); go_simp))) ?_
      simp only [Act.put, pA, pZ, pS]
      refine tkO 9 (.pointer (some ⟨w.heap.size, 8, none⟩)) (by simp only [gT, gZ, gS]; rfl) (puO (by (intro w hSw; (try dsimp only at hSw); go_simp))) ?_
      simp only [Act.put, pA, pZ, pS]
      refine tkO 10 (.agg s.q0.r.cells) (by simp only [gT, gZ, gS]; rfl) (y_midv w.heap.size 8 s.cells s.q0.r.cells _ (fun V hV => hV.1) (ext_r0 s) _ underlying26 rfl size_rr rfl) ?_
      simp only [Act.put, pA, pZ, pS]
      refine tkO 11 (.agg s.q0.cells) (by simp only [gT, gZ, gS]; rfl) (y_bdq s.q0 rfl rfl) ?_
      simp only [Act.put, pA, pZ, pS]
      refine tkO 12 (.pointer (some ⟨w.heap.size + 2, 7, none⟩)) (by simp only [gT, gZ, gS]; rfl) (puO (by (intro w hSw; (try dsimp only at hSw); go_simp))) ?_
      simp only [Act.put, pA, pZ, pS]
      refine tkO 13 (.pointer (some ⟨w.heap.size + 2, 7, none⟩)) (by simp only [gT, gZ, gS]; rfl) (puO (by (intro w hSw; (try dsimp only at hSw); go_simp))) ?_
      simp only [Act.put, pA, pZ, pS]
      refine skO 14 (by simp only [gT, gZ, gS]; rfl) (fun K hK => ?_)
      rw [if_pos (by rfl)]
      (with_reducible refine s_q0p (w.heap.size + 2) _ s.q0 _ hx ?_ ?_ ?_)
      · exact rfl
      · exact rfl
      intro V hnew ho
      have hH2 := hide (And.intro (hHeld.1.only ho (by omega)) (ho.bel _ _ (by omega) hHeld.2))
      replace hx := hnew
      replace hq := hq.only ho (by omega)
      clear hHeld
      refine hK.out _ _ ?_ (fun hHeld => ?_)
      · exact hH2.out
      clear hK K
      clear hH2
      refine wpAnyH_done (by kernel_rfl) ?_ _
      have hr := hHeld.1
      have hb := hHeld.2
      clear hHeld
      go_wp2
      go_roundw
      case rel => exact ⟨1, by omega, by go_num, hr, hq, hx, hb⟩
      case measure => decide
    · go_wp2_with (fail)
      refine wp_region_held_drew (S := (fun V => RowAt V w.heap.size s.cells 31 ∧ Below w.heap.size w V)) (by kernel_rfl) ?_ (fun hHeld => ?_)
      · exact ⟨hr.dr, hb.drew⟩
      replace hq := hq.dr
      replace hx := hx.dr
      generalize World.drew _ = V at hHeld hq hx ⊢
      clear hr hb
      refine tkO 0 (.int .i64 1) (by simp only [gT, gZ]; rfl) (puO (by (intro w hSw; (try dsimp only at hSw); go_simp))) ?_
      simp only [Act.put, pA, pZ, pS]
      refine tkO 1 (.int .i64 1) (by simp only [gT, gZ, gS]; rfl) (puO (by (intro w hSw; (try dsimp only at hSw); go_simp))) ?_
      simp only [Act.put, pA, pZ, pS]
      refine tkO 2 (.pointer (some ⟨w.heap.size, 7, none⟩)) (by simp only [gT, gZ, gS]; rfl) (puO (by (intro w hSw; (try dsimp only at hSw); go_simp))) ?_
      simp only [Act.put, pA, pZ, pS]
      refine tkO 3 (.pointer (some ⟨w.heap.size, 14, none⟩)) (by simp only [gT, gZ, gS]; rfl) (puO (by (intro w hSw; (try dsimp only at hSw); go_simp))) ?_
      simp only [Act.put, pA, pZ, pS]
      refine tkO 4 (.pointer (some ⟨w.heap.size, 14, none⟩)) (by simp only [gT, gZ, gS]; rfl) (puO (by (intro w hSw; (try dsimp only at hSw); go_simp))) ?_
      simp only [Act.put, pA, pZ, pS]
      refine tkO 5 (.bool s.q1.rd) (by simp only [gT, gZ, gS]; rfl) (y_rd1 w.heap.size s _ (fun V hV => hV.1) rfl) ?_
      simp only [Act.put, pA, pZ, pS]
      refine tkO 6 (.int .i64 1) (by simp only [gT, gZ, gS]; rfl) (puO (by (intro w hSw; (try dsimp only at hSw); go_simp))) ?_
      simp only [Act.put, pA, pZ, pS]
      refine tkO 7 (.pointer (some ⟨w.heap.size, 7, none⟩)) (by simp only [gT, gZ, gS]; rfl) (puO (by (intro w hSw; (try dsimp only at hSw); go_simp))) ?_
      simp only [Act.put, pA, pZ, pS]
      refine tkO 8 (.pointer (some ⟨w.heap.size, 14, none⟩)) (by simp only [gT, gZ, gS]; rfl) (puO (by (intro w hSw; (try dsimp only at hSw); go_simp))) ?_
      simp only [Act.put, pA, pZ, pS]
      refine tkO 9 (.pointer (some ⟨w.heap.size, 15, none⟩)) (by simp only [gT, gZ, gS]; rfl) (puO (by (intro w hSw; (try dsimp only at hSw); go_simp))) ?_
      simp only [Act.put, pA, pZ, pS]
      refine tkO 10 (.agg s.q1.r.cells) (by simp only [gT, gZ, gS]; rfl) (y_midv w.heap.size 15 s.cells s.q1.r.cells _ (fun V hV => hV.1) (ext_r1 s) _ underlying26 rfl size_rr rfl) ?_
      simp only [Act.put, pA, pZ, pS]
      refine tkO 11 (.agg s.q1.cells) (by simp only [gT, gZ, gS]; rfl) (y_bdq s.q1 rfl rfl) ?_
      simp only [Act.put, pA, pZ, pS]
      refine tkO 12 (.pointer (some ⟨w.heap.size + 2, 7, none⟩)) (by simp only [gT, gZ, gS]; rfl) (puO (by (intro w hSw; (try dsimp only at hSw); go_simp))) ?_
      simp only [Act.put, pA, pZ, pS]
      refine tkO 13 (.pointer (some ⟨w.heap.size + 2, 14, none⟩)) (by simp only [gT, gZ, gS]; rfl) (puO (by (intro w hSw; (try dsimp only at hSw); go_simp))) ?_
      simp only [Act.put, pA, pZ, pS]
      refine skO 14 (by simp only [gT, gZ, gS]; rfl) (fun K hK => ?_)
      rw [if_pos (by rfl)]
      (with_reducible refine s_q1p (w.heap.size + 2) _ s.q1 _ hx ?_ ?_ ?_)
      · exact rfl
      · exact rfl
      intro V hnew ho
      have hH2 := hide (And.intro (hHeld.1.only ho (by omega)) (ho.bel _ _ (by omega) hHeld.2))
      replace hx := hnew
      replace hq := hq.only ho (by omega)
      clear hHeld
      refine hK.out _ _ ?_ (fun hHeld => ?_)
      · exact hH2.out
      clear hK K
      clear hH2
      refine wpAnyH_done (by kernel_rfl) ?_ _
      have hr := hHeld.1
      have hb := hHeld.2
      clear hHeld
      go_wp2
      go_roundw
      case rel => exact ⟨2, by omega, by go_num, hr, hq, hx, hb⟩
      case measure => decide
    · go_wp2_with (first | ((with_reducible refine ld_vp (w.heap.size + 2) _ hx ?_ ?_ ?_); exact rfl; exact rfl) | ((with_reducible refine st_vp (w.heap.size + 1) _ s hq ?_ ?_ ?_); exact rfl; exact rfl; intro W hnew ho; replace hr := hr.only ho (by omega); replace hq := hnew; replace hb := ho.bel _ _ (by omega) hb))
      refine bodyPost_ret (results_cell_row results22 _ _ (w.heap.size + 1) _ _ _ _ rfl hq underlying39 rfl size_vp) rfl ?_
      exact ⟨rfl, hb⟩
end Go.Proofs.YtbggkoahofnnjaaGreatDoor
namespace Go.Proofs.YtbggkoahofnnjaaGreatDoor
open Go.RowKit
set_option maxHeartbeats 4000000
attribute [local go_sem] V.at0 V.at1 V.at2 V.at3 V.at4 V.at5 V.at6 V.at7 V.at8 V.at9 V.at10 V.at11 V.at12 V.at13 V.at14 V.at15 V.at16 V.at17 V.at18 V.at19 V.at20 Qu.at0 Qu.at1 Qu.at2 Qu.at3 Qu.at4 Qu.at5 Qu.at6
def lI : Array Value := #[.int .i64 0, .int .i64 1, .int .i64 7, .int .i64 3, .int .i64 2]
theorem lI_0 : lI[0]? = some (.int .i64 0) := rfl
theorem lI_1 : lI[1]? = some (.int .i64 1) := rfl
theorem lI_2 : lI[2]? = some (.int .i64 7) := rfl
theorem lI_3 : lI[3]? = some (.int .i64 3) := rfl
theorem lI_4 : lI[4]? = some (.int .i64 2) := rfl
attribute [local go_sem] lI_0 lI_1 lI_2 lI_3 lI_4
def st1 (s : V) (v : Nat) : Nat := if v.testBit 0 = true then s.st ||| 1 else s.st
def st2 (s : V) (v : Nat) : Nat := if v.testBit 1 = true then st1 s v ||| 2 else st1 s v
def st3 (s : V) (v : Nat) : Nat := if v.testBit 7 = true then st2 s v ||| 128 else st2 s v
def st4 (s : V) (v : Nat) : Nat := if (v.testBit 3 && setl s) = true then st3 s v ||| 8 else st3 s v
def st5 (s : V) (v : Nat) : Nat := if (v.testBit 2 && (st4 s v).testBit 3) = true then st4 s v ||| 4 else st4 s v
def stK (s : V) (v i : Nat) : Nat := if i = 0 then s.st else if i = 1 then st1 s v else if i = 2 then st2 s v else if i = 3 then st3 s v else if i = 4 then st4 s v else st5 s v
theorem stK_lt {s : V} (ok : s.Ok) (v i : Nat) : stK s v i < 4294967296 := by
  have h0 := ok.st
  have h1 : st1 s v < 4294967296 := by unfold st1; split; (exact or_lt32 h0 (by decide)); exact h0
  have h2 : st2 s v < 4294967296 := by unfold st2; split; (exact or_lt32 h1 (by decide)); exact h1
  have h3 : st3 s v < 4294967296 := by unfold st3; split; (exact or_lt32 h2 (by decide)); exact h2
  have h4 : st4 s v < 4294967296 := by unfold st4; split; (exact or_lt32 h3 (by decide)); exact h3
  have h5 : st5 s v < 4294967296 := by unfold st5; split; (exact or_lt32 h4 (by decide)); exact h4
  unfold stK
  repeat' split
  all_goals assumption
def mP (x : Nat) (se t3 : Bool) : Nat := if (t3 || (if se = true then x &&& 143 else (x &&& 143) &&& 4294967287).testBit 3) = true then (if se = true then x &&& 143 else (x &&& 143) &&& 4294967287) else (if se = true then x &&& 143 else (x &&& 143) &&& 4294967287) &&& 4294967291
def mD4 (x : Nat) (se : Bool) : Nat := (((if x.testBit 0 = true then 1 else 0) ||| (if x.testBit 1 = true then 2 else 0)) ||| (if x.testBit 7 = true then 128 else 0)) ||| (if (x.testBit 3 && se) = true then 8 else 0)
def mD (x : Nat) (se t3 : Bool) : Nat := mD4 x se ||| (if (x.testBit 2 && (t3 || (mD4 x se).testBit 3)) = true then 4 else 0)
theorem mP_mD : ∀ x, x < 256 → ∀ se t3, mP x se t3 = mD x se t3 := by decide +kernel
theorem or_if (x k : Nat) (c : Bool) : (if c = true then x ||| k else x) = x ||| (if c = true then k else 0) := by
  cases c <;> simp
theorem st4_eq (s : V) (v : Nat) : st4 s v = s.st ||| mD4 (v % 256) (setl s) := by
  unfold st4 st3 st2 st1 mD4
  rw [or_if, or_if, or_if, or_if, tb_low v 0 (by decide), tb_low v 1 (by decide), tb_low v 7 (by decide), tb_low v 3 (by decide), Nat.or_assoc, Nat.or_assoc, Nat.or_assoc, ← Nat.or_assoc, ← Nat.or_assoc, ← Nat.or_assoc]
  simp only [Nat.or_assoc]
theorem st5_eq (s : V) (v : Nat) : st5 s v = s.st ||| statM s v := by
  have e1 : statB s v = if setl s = true then (v % 256) &&& 143 else ((v % 256) &&& 143) &&& 4294967287 := by
    unfold statB; rw [and_low v 143 (by decide)]
  have e2 : statM s v = mP (v % 256) (setl s) (s.st.testBit 3) := by
    unfold statM mP
    rw [Nat.testBit_or, e1]
  rw [e2, mP_mD _ (Nat.mod_lt _ (by decide))]
  unfold st5 mD
  rw [or_if, st4_eq, Nat.testBit_or, tb_low v 2 (by decide), Nat.or_assoc]
theorem s_ldc {P : Program} {dst : Option Tmp} {ty t : TypeId} {pos : String} {after : Array Edge} {a : Act} {w : World} {Q : Exit → Act → World → Prop} {K : Act → World → Prop} {x : Operand} (b j : Nat) (hx : a.eval x = .pointer (some ⟨b, j, none⟩)) (cs : Array Value) (v : Value) (t' : TypeId) (hr : RowAt w b cs t') (hv : cs[j]? = some v) (d : TypeDesc) (hu : P.underlying t = some d) (hd : d.isRow = false)
    (k : K (a.put dst v) w) : Oper.wp P ⟨dst, .load t x, ty, pos, after, none⟩ a w K Q := by
  have hcell : w.cell? ⟨b, j, none⟩ = some v := (hr.cell j).trans hv
  have hrun : (loadVar t ⟨b, j, none⟩).run P w = .ok v w := by
    have hagg : (isAgg t).run P w = .ok false w := by
      unfold isAgg
      rw [Sem.run_bind, run_underlying hu w]
      cases d <;> simp_all
    simp [loadVar, Sem.run_bind, hagg, hcell]
  unfold Oper.wp execOp
  simp only [hx, Instr.loadAt, Instr.sureAddr, Sem.run_bind, Sem.run_pure, Result.andThen_ok, hrun]
  exact k
theorem s_stc {P : Program} {dst : Option Tmp} {ty t : TypeId} {pos : String} {after : Array Edge} {a : Act} {w : World} {Q : Exit → Act → World → Prop} {K : Act → World → Prop} {x y : Operand} (b j : Nat) (hx : a.eval x = .pointer (some ⟨b, j, none⟩)) (v : Value) (hy : a.eval y = v) (old cs : Array Value) (t' : TypeId) (hr : RowAt w b old t') (hi : (P.info? t).map (·.size) = some 1) (hs : j < old.size) (h1 : v.oneCell' = true) (hp : old.setIfInBounds j v = cs)
    (k : ∀ W, RowAt W b cs t' → Only b w W → K (a.put dst undef) W) : Oper.wp P ⟨dst, .store t x y, ty, pos, after, none⟩ a w K Q := by
  subst hp
  have hth := hr.thereAt j 1 (by omega)
  have := run_storeCells_cells (P := P) b j [v] 0 w (fun i hi => by simpa using (hth i (by simpa using hi)).1) (fun i hi => by simpa using (hth i (by simpa using hi)).2) (fun u hu => by simp at hu; subst hu; exact h1)
  have hc : v.cells = #[v] := by cases v <;> first | rfl | cases h1
  have hrun : (storeVar t ⟨b, j, none⟩ v).run P w = .ok () (w.setCells b j [v]) := by
    cases hq : P.info? t with
    | none => simp [hq] at hi
    | some i =>
      have hs : i.size = 1 := by simp [hq] at hi; omega
      simp only [Nat.add_zero] at this
      simp [storeVar, sizeOf, typeInfo, hq, hc, hs, this]
  unfold Oper.wp execOp
  simp only [hx, hy, Instr.storeAt, Instr.sureAddr, Sem.run_bind, Sem.run_pure, Result.andThen_ok, hrun]
  exact k _ (hr.put j v) (only_setCells b j [v] w)
variable {ops : Array Oper} {rest : List Oper} {dst : Option Tmp} {ty t2 : TypeId} {after : Array Edge} {a : Act} {x y : Operand} {gd : Option (Nat × Bool)} {pos : String} {S : World → Prop} {w : World} {Q : Exit → Act → World → Prop} {K : Act → World → Prop}
theorem bs_i (N : Nat) (hN : w.heap.size = N)
    (k : ∀ W, RowAt W N lI 3 → Below N w W → Hid (W.heap.size = N + 1) → wpList prog ops Q rest (a.put dst (.slice (some ⟨N, 0, none⟩) 5 5)) W) :
    wpList prog ops Q (⟨dst, .buildSlice 199 5 #[(0, .const (.int .i64 0)), (1, .const (.int .i64 1)), (2, .const (.int .i64 7)), (3, .const (.int .i64 3)), (4, .const (.int .i64 2))], ty, pos, after, none⟩ :: rest) a w :=
  op_bsn 199 3 5 underlying199 lI N hN [(0, .int .i64 0), (1, .int .i64 1), (2, .int .i64 7), (3, .int .i64 3), (4, .int .i64 2)] (by simp [Act.eval]) ⟨by kernel_rfl⟩ k
theorem rstat_0 (s : V) (ok : s.Ok) (v : Nat) (h : v = 0) (w : World) :
    Calls prog 65 #[.agg s.cells, .int .u32 (v : Nat)] w fun e w' => e = .returned (.agg (statV s v).cells) ∧ Below w.heap.size w w' := by
  have HV : statV s v = zeroV := by unfold statV; rw [if_pos h]
  rw [HV]; clear HV
  subst h
  rw [show ((0 : Nat) : Int) = 0 from rfl]
  go_enter func65, ntmps65
  go_wp2_with (first | ((with_reducible refine bx_vr w.heap.size s ?_ ?_ ?_); exact rfl; exact rfl; intro W hr hb hz; have fx := hr.cell) | ((with_reducible refine al_vr (w.heap.size + 1) ?_ ?_); exact hz.out; intro W hq hb' hz'; replace hr := hr.bl (hz.out ▸ hb'); replace hb := hb.trans (hb'.mono (by omega)); replace hz := hz'; replace fx := hr.cell) | ((with_reducible refine st_vr (w.heap.size + 1) _ zeroV hq ?_ ?_ ?_); exact rfl; exact rfl; intro W hnew ho; replace hr := hr.only ho (by omega); replace hq := hnew; replace hb := ho.bel _ _ (by omega) hb))
  refine bodyPost_ret (results_cell_row results65 _ _ (w.heap.size + 1) _ _ _ _ rfl hq underlying31 rfl size_vr) rfl ?_
  exact ⟨rfl, hb⟩
set_option maxRecDepth 20000 in
theorem rstat_n (s : V) (ok : s.Ok) (v : Nat) (hv : v < 4294967296) (h : v ≠ 0) (w : World) :
    Calls prog 65 #[.agg s.cells, .int .u32 (v : Nat)] w fun e w' => e = .returned (.agg (statV s v).cells) ∧ Below w.heap.size w w' := by
  have HV : statV s v = s.stw (st5 s v) := by unfold statV; rw [if_neg h, st5_eq]
  rw [HV]; clear HV
  have l0 : ((v : Int) == 0) = false := by simp; omega
  have m0 : (v == 0) = false := by simp; omega
  clear h
  go_enter func65, ntmps65
  go_wp2_with (first | ((with_reducible refine bx_vr w.heap.size s ?_ ?_ ?_); exact rfl; exact rfl; intro W hr hb hz; have fx := hr.cell) | ((with_reducible refine al_vr (w.heap.size + 1) ?_ ?_); exact hz.out; intro W hq hb' hz'; replace hr := hr.bl (hz.out ▸ hb'); replace hb := hb.trans (hb'.mono (by omega)); replace hz := hz'; replace fx := hr.cell) | ((with_reducible refine bs_i (w.heap.size + 2) ?_ ?_); exact hz.out; intro W hl hb' hz'; replace hr := hr.bl (hz.out ▸ hb'); replace hq := hq.bl (hz.out ▸ hb'); replace hb := hb.trans (hb'.mono (by omega)); clear fx))
  go_loopw [6] (fun iv wr => ∃ i : Nat, i ≤ 5 ∧ iv = .int .i64 (i : Nat) ∧ RowAt wr w.heap.size (s.stw (stK s v i)).cells 31 ∧ RowAt wr (w.heap.size + 1) zeroV.cells 31 ∧ RowAt wr (w.heap.size + 2) lI 3 ∧ Below w.heap.size w wr) (fun iv _ => 5 - (intOf iv).toNat)
  case atStart => exact ⟨0, by omega, rfl, hr, hq, hl, hb⟩
  case round =>
    clear hr hq hl hb hz
    obtain ⟨i, hi, rfl, hr, hq, hl, hb⟩ := hrel
    have hi5 : i = 0 ∨ i = 1 ∨ i = 2 ∨ i = 3 ∨ i = 4 ∨ i = 5 := by omega
    rcases hi5 with rfl | rfl | rfl | rfl | rfl | rfl
    · have HX := hide (stK_lt ok v 0)
      obtain ⟨X, hX⟩ : ∃ x, stK s v 0 = x := ⟨_, rfl⟩
      rw [hX] at hr HX
      have HS := hide (fun w => rset_0 X HX.out w)
      have H := hide (fun w => rhas_0 v hv w)
      have fx := hr.cell
      have fl := hl.cell
      cases hb0 : v.testBit 0 with
      | false =>
        have HN : Hid (stK s v 1 = X) := hide (by show st1 s v = _; unfold st1; rw [hb0, if_neg (by decide)]; exact hX)
        rw [hb0] at H
        clear hX
        go_wp2_with (first | (go_at_call 30; (with_reducible refine (H.out _).mono ?_); rintro e W ⟨rfl, rfl⟩))
        go_roundw
        case rel => exact ⟨1, by omega, by go_num, by rw [HN.out]; exact hr, hq, hl, hb⟩
        case measure => decide
      | true =>
        have HN : Hid (stK s v 1 = X ||| 1) := hide (by show st1 s v = _; unfold st1; rw [hb0, if_pos rfl]; exact congrArg (fun z => z ||| 1) hX)
        rw [hb0] at H
        clear hX
        go_wp2_with (first | (go_at_call 30; (with_reducible refine (H.out _).mono ?_); rintro e W ⟨rfl, rfl⟩))
        refine wp_region_held_drew (S := (fun V => RowAt V (w.heap.size + 1) zeroV.cells 31 ∧ RowAt V (w.heap.size + 2) lI 3 ∧ Below w.heap.size w V)) (by kernel_rfl) ?_ (fun hHeld => ?_)
        · exact ⟨hq.dr, hl.dr, hb.drew⟩
        replace hr := hr.dr
        generalize World.drew _ = V at hHeld hr ⊢
        clear hq hl hb
        refine tkO 0 (.pointer (some ⟨w.heap.size, 0, none⟩)) (by simp only [gT, gZ]; rfl) (puO (by (intro w hSw; (try dsimp only at hSw); go_simp))) ?_
        simp only [Act.put, pA, pZ, pS]
        refine tkO 2 (.slice (some ⟨w.heap.size + 2, 0, none⟩) 5 5) (by simp only [gT, gZ, gS]; rfl) (puO (by (intro w hSw; (try dsimp only at hSw); go_simp))) ?_
        simp only [Act.put, pA, pZ, pS]
        refine tkO 3 (.int .i64 0) (by simp only [gT, gZ, gS]; rfl) (puO (by (intro w hSw; (try dsimp only at hSw); go_simp))) ?_
        simp only [Act.put, pA, pZ, pS]
        refine tkO 4 (.pointer (some ⟨w.heap.size + 2, 0, none⟩)) (by simp only [gT, gZ, gS]; rfl) (puO (by (intro w hSw; (try dsimp only at hSw); go_simp))) ?_
        simp only [Act.put, pA, pZ, pS]
        refine tkO 5 (.int .i64 0) (by simp only [gT, gZ, gS]; rfl) (y_cell (w.heap.size + 2) 0 _ (fun V hV => (hV.2.1.cell _).trans lI_0) _ underlying3 rfl rfl) ?_
        simp only [Act.put, pA, pZ, pS]
        refine skO 1 (by simp only [gT, gZ, gS]; rfl) (fun K hK => ?_)
        rw [if_pos (by rfl)]
        (with_reducible refine s_ldc w.heap.size 0 ?_ _ (.int .u32 (X : Nat)) _ hr ?_ _ underlying22 ?_ ?_)
        · exact rfl
        · exact rfl
        · exact rfl
        have hH2 := hide hHeld
        clear hHeld
        refine hK.out _ _ ?_ (fun hHeld => ?_)
        · exact hH2.out
        clear hK K
        clear hH2
        refine skO 6 (by simp only [gT, gZ, gS]; rfl) (fun K hK => ?_)
        go_simp
        (with_reducible refine (HS.out _).mono ?_)
        rintro e V ⟨rfl, hbc⟩
        have hH2 := hide (And.intro (hHeld.1.bl hbc) (And.intro (hHeld.2.1.bl hbc) (below_bl rfl hHeld.2.2 hbc)))
        replace hr := hr.bl hbc
        clear hHeld hbc
        go_simp
        refine hK.out _ _ ?_ (fun hHeld => ?_)
        · exact hH2.out
        clear hK K
        clear hH2
        refine tkO 7 (.pointer (some ⟨w.heap.size, 0, none⟩)) (by simp only [gT, gZ, gS]; rfl) (puO (by (intro w hSw; (try dsimp only at hSw); go_simp))) ?_
        simp only [Act.put, pA, pZ, pS]
        refine skO 8 (by simp only [gT, gZ, gS]; rfl) (fun K hK => ?_)
        rw [if_pos (by rfl)]
        (with_reducible refine s_stc w.heap.size 0 ?_ (.int .u32 ((X ||| 1 : Nat) : Int)) ?_ _ (s.stw (X ||| 1)).cells _ hr ?_ ?_ ?_ ?_ ?_)
        · exact rfl
        · exact rfl
        · exact size_u32i
        · exact (show 0 < 21 by decide)
        · exact rfl
        · exact rfl
        intro V hnew ho
        have hH2 := hide (And.intro (hHeld.1.only ho (by omega)) (And.intro (hHeld.2.1.only ho (by omega)) (ho.bel _ _ (by omega) hHeld.2.2)))
        replace hr := hnew
        clear hHeld
        refine hK.out _ _ ?_ (fun hHeld => ?_)
        · exact hH2.out
        clear hK K
        clear hH2
        refine wpAnyH_done (by kernel_rfl) ?_ _
        have hq := hHeld.1
        have hl := hHeld.2.1
        have hb := hHeld.2.2
        clear hHeld
        go_wp2
        go_roundw
        case rel => exact ⟨1, by omega, by go_num, by rw [HN.out]; exact hr, hq, hl, hb⟩
        case measure => decide
    · have HX := hide (stK_lt ok v 1)
      obtain ⟨X, hX⟩ : ∃ x, stK s v 1 = x := ⟨_, rfl⟩
      rw [hX] at hr HX
      have HS := hide (fun w => rset_1 X HX.out w)
      have H := hide (fun w => rhas_1 v hv w)
      have fx := hr.cell
      have fl := hl.cell
      cases hb0 : v.testBit 1 with
      | false =>
        have HN : Hid (stK s v 2 = X) := hide (by show st2 s v = _; unfold st2; rw [hb0, if_neg (by decide)]; exact hX)
        rw [hb0] at H
        clear hX
        go_wp2_with (first | (go_at_call 30; (with_reducible refine (H.out _).mono ?_); rintro e W ⟨rfl, rfl⟩))
        go_roundw
        case rel => exact ⟨2, by omega, by go_num, by rw [HN.out]; exact hr, hq, hl, hb⟩
        case measure => decide
      | true =>
        have HN : Hid (stK s v 2 = X ||| 2) := hide (by show st2 s v = _; unfold st2; rw [hb0, if_pos rfl]; exact congrArg (fun z => z ||| 2) hX)
        rw [hb0] at H
        clear hX
        go_wp2_with (first | (go_at_call 30; (with_reducible refine (H.out _).mono ?_); rintro e W ⟨rfl, rfl⟩))
        refine wp_region_held_drew (S := (fun V => RowAt V (w.heap.size + 1) zeroV.cells 31 ∧ RowAt V (w.heap.size + 2) lI 3 ∧ Below w.heap.size w V)) (by kernel_rfl) ?_ (fun hHeld => ?_)
        · exact ⟨hq.dr, hl.dr, hb.drew⟩
        replace hr := hr.dr
        generalize World.drew _ = V at hHeld hr ⊢
        clear hq hl hb
        refine tkO 0 (.pointer (some ⟨w.heap.size, 0, none⟩)) (by simp only [gT, gZ]; rfl) (puO (by (intro w hSw; (try dsimp only at hSw); go_simp))) ?_
        simp only [Act.put, pA, pZ, pS]
        refine tkO 2 (.slice (some ⟨w.heap.size + 2, 0, none⟩) 5 5) (by simp only [gT, gZ, gS]; rfl) (puO (by (intro w hSw; (try dsimp only at hSw); go_simp))) ?_
        simp only [Act.put, pA, pZ, pS]
        refine tkO 3 (.int .i64 1) (by simp only [gT, gZ, gS]; rfl) (puO (by (intro w hSw; (try dsimp only at hSw); go_simp))) ?_
        simp only [Act.put, pA, pZ, pS]
        refine tkO 4 (.pointer (some ⟨w.heap.size + 2, 1, none⟩)) (by simp only [gT, gZ, gS]; rfl) (puO (by (intro w hSw; (try dsimp only at hSw); go_simp))) ?_
        simp only [Act.put, pA, pZ, pS]
        refine tkO 5 (.int .i64 1) (by simp only [gT, gZ, gS]; rfl) (y_cell (w.heap.size + 2) 1 _ (fun V hV => (hV.2.1.cell _).trans lI_1) _ underlying3 rfl rfl) ?_
        simp only [Act.put, pA, pZ, pS]
        refine skO 1 (by simp only [gT, gZ, gS]; rfl) (fun K hK => ?_)
        rw [if_pos (by rfl)]
        (with_reducible refine s_ldc w.heap.size 0 ?_ _ (.int .u32 (X : Nat)) _ hr ?_ _ underlying22 ?_ ?_)
        · exact rfl
        · exact rfl
        · exact rfl
        have hH2 := hide hHeld
        clear hHeld
        refine hK.out _ _ ?_ (fun hHeld => ?_)
        · exact hH2.out
        clear hK K
        clear hH2
        refine skO 6 (by simp only [gT, gZ, gS]; rfl) (fun K hK => ?_)
        go_simp
        (with_reducible refine (HS.out _).mono ?_)
        rintro e V ⟨rfl, hbc⟩
        have hH2 := hide (And.intro (hHeld.1.bl hbc) (And.intro (hHeld.2.1.bl hbc) (below_bl rfl hHeld.2.2 hbc)))
        replace hr := hr.bl hbc
        clear hHeld hbc
        go_simp
        refine hK.out _ _ ?_ (fun hHeld => ?_)
        · exact hH2.out
        clear hK K
        clear hH2
        refine tkO 7 (.pointer (some ⟨w.heap.size, 0, none⟩)) (by simp only [gT, gZ, gS]; rfl) (puO (by (intro w hSw; (try dsimp only at hSw); go_simp))) ?_
        simp only [Act.put, pA, pZ, pS]
        refine skO 8 (by simp only [gT, gZ, gS]; rfl) (fun K hK => ?_)
        rw [if_pos (by rfl)]
        (with_reducible refine s_stc w.heap.size 0 ?_ (.int .u32 ((X ||| 2 : Nat) : Int)) ?_ _ (s.stw (X ||| 2)).cells _ hr ?_ ?_ ?_ ?_ ?_)
        · exact rfl
        · exact rfl
        · exact size_u32i
        · exact (show 0 < 21 by decide)
        · exact rfl
        · exact rfl
        intro V hnew ho
        have hH2 := hide (And.intro (hHeld.1.only ho (by omega)) (And.intro (hHeld.2.1.only ho (by omega)) (ho.bel _ _ (by omega) hHeld.2.2)))
        replace hr := hnew
        clear hHeld
        refine hK.out _ _ ?_ (fun hHeld => ?_)
        · exact hH2.out
        clear hK K
        clear hH2
        refine wpAnyH_done (by kernel_rfl) ?_ _
        have hq := hHeld.1
        have hl := hHeld.2.1
        have hb := hHeld.2.2
        clear hHeld
        go_wp2
        go_roundw
        case rel => exact ⟨2, by omega, by go_num, by rw [HN.out]; exact hr, hq, hl, hb⟩
        case measure => decide
    · have HX := hide (stK_lt ok v 2)
      obtain ⟨X, hX⟩ : ∃ x, stK s v 2 = x := ⟨_, rfl⟩
      rw [hX] at hr HX
      have HS := hide (fun w => rset_7 X HX.out w)
      have H := hide (fun w => rhas_7 v hv w)
      have fx := hr.cell
      have fl := hl.cell
      cases hb0 : v.testBit 7 with
      | false =>
        have HN : Hid (stK s v 3 = X) := hide (by show st3 s v = _; unfold st3; rw [hb0, if_neg (by decide)]; exact hX)
        rw [hb0] at H
        clear hX
        go_wp2_with (first | (go_at_call 30; (with_reducible refine (H.out _).mono ?_); rintro e W ⟨rfl, rfl⟩))
        go_roundw
        case rel => exact ⟨3, by omega, by go_num, by rw [HN.out]; exact hr, hq, hl, hb⟩
        case measure => decide
      | true =>
        have HN : Hid (stK s v 3 = X ||| 128) := hide (by show st3 s v = _; unfold st3; rw [hb0, if_pos rfl]; exact congrArg (fun z => z ||| 128) hX)
        rw [hb0] at H
        clear hX
        go_wp2_with (first | (go_at_call 30; (with_reducible refine (H.out _).mono ?_); rintro e W ⟨rfl, rfl⟩))
        refine wp_region_held_drew (S := (fun V => RowAt V (w.heap.size + 1) zeroV.cells 31 ∧ RowAt V (w.heap.size + 2) lI 3 ∧ Below w.heap.size w V)) (by kernel_rfl) ?_ (fun hHeld => ?_)
        · exact ⟨hq.dr, hl.dr, hb.drew⟩
        replace hr := hr.dr
        generalize World.drew _ = V at hHeld hr ⊢
        clear hq hl hb
        refine tkO 0 (.pointer (some ⟨w.heap.size, 0, none⟩)) (by simp only [gT, gZ]; rfl) (puO (by (intro w hSw; (try dsimp only at hSw); go_simp))) ?_
        simp only [Act.put, pA, pZ, pS]
        refine tkO 2 (.slice (some ⟨w.heap.size + 2, 0, none⟩) 5 5) (by simp only [gT, gZ, gS]; rfl) (puO (by (intro w hSw; (try dsimp only at hSw); go_simp))) ?_
        simp only [Act.put, pA, pZ, pS]
        refine tkO 3 (.int .i64 2) (by simp only [gT, gZ, gS]; rfl) (puO (by (intro w hSw; (try dsimp only at hSw); go_simp))) ?_
        simp only [Act.put, pA, pZ, pS]
        refine tkO 4 (.pointer (some ⟨w.heap.size + 2, 2, none⟩)) (by simp only [gT, gZ, gS]; rfl) (puO (by (intro w hSw; (try dsimp only at hSw); go_simp))) ?_
        simp only [Act.put, pA, pZ, pS]
        refine tkO 5 (.int .i64 7) (by simp only [gT, gZ, gS]; rfl) (y_cell (w.heap.size + 2) 2 _ (fun V hV => (hV.2.1.cell _).trans lI_2) _ underlying3 rfl rfl) ?_
        simp only [Act.put, pA, pZ, pS]
        refine skO 1 (by simp only [gT, gZ, gS]; rfl) (fun K hK => ?_)
        rw [if_pos (by rfl)]
        (with_reducible refine s_ldc w.heap.size 0 ?_ _ (.int .u32 (X : Nat)) _ hr ?_ _ underlying22 ?_ ?_)
        · exact rfl
        · exact rfl
        · exact rfl
        have hH2 := hide hHeld
        clear hHeld
        refine hK.out _ _ ?_ (fun hHeld => ?_)
        · exact hH2.out
        clear hK K
        clear hH2
        refine skO 6 (by simp only [gT, gZ, gS]; rfl) (fun K hK => ?_)
        go_simp
        (with_reducible refine (HS.out _).mono ?_)
        rintro e V ⟨rfl, hbc⟩
        have hH2 := hide (And.intro (hHeld.1.bl hbc) (And.intro (hHeld.2.1.bl hbc) (below_bl rfl hHeld.2.2 hbc)))
        replace hr := hr.bl hbc
        clear hHeld hbc
        go_simp
        refine hK.out _ _ ?_ (fun hHeld => ?_)
        · exact hH2.out
        clear hK K
        clear hH2
        refine tkO 7 (.pointer (some ⟨w.heap.size, 0, none⟩)) (by simp only [gT, gZ, gS]; rfl) (puO (by (intro w hSw; (try dsimp only at hSw); go_simp))) ?_
        simp only [Act.put, pA, pZ, pS]
        refine skO 8 (by simp only [gT, gZ, gS]; rfl) (fun K hK => ?_)
        rw [if_pos (by rfl)]
        (with_reducible refine s_stc w.heap.size 0 ?_ (.int .u32 ((X ||| 128 : Nat) : Int)) ?_ _ (s.stw (X ||| 128)).cells _ hr ?_ ?_ ?_ ?_ ?_)
        · exact rfl
        · exact rfl
        · exact size_u32i
        · exact (show 0 < 21 by decide)
        · exact rfl
        · exact rfl
        intro V hnew ho
        have hH2 := hide (And.intro (hHeld.1.only ho (by omega)) (And.intro (hHeld.2.1.only ho (by omega)) (ho.bel _ _ (by omega) hHeld.2.2)))
        replace hr := hnew
        clear hHeld
        refine hK.out _ _ ?_ (fun hHeld => ?_)
        · exact hH2.out
        clear hK K
        clear hH2
        refine wpAnyH_done (by kernel_rfl) ?_ _
        have hq := hHeld.1
        have hl := hHeld.2.1
        have hb := hHeld.2.2
        clear hHeld
        go_wp2
        go_roundw
        case rel => exact ⟨3, by omega, by go_num, by rw [HN.out]; exact hr, hq, hl, hb⟩
        case measure => decide
    · have HX := hide (stK_lt ok v 3)
      obtain ⟨X, hX⟩ : ∃ x, stK s v 3 = x := ⟨_, rfl⟩
      rw [hX] at hr HX
      have HS := hide (fun w => rset_3 X HX.out w)
      have H := hide (fun w => rhas_3 v hv w)
      have fx := hr.cell
      have fl := hl.cell
      cases hb0 : v.testBit 3 with
      | false =>
        have HN : Hid (stK s v 4 = X) := hide (by show st4 s v = _; unfold st4; rw [hb0, Bool.false_and, if_neg (by decide)]; exact hX)
        rw [hb0] at H
        clear hX
        go_wp2_with (first | (go_at_call 30; (with_reducible refine (H.out _).mono ?_); rintro e W ⟨rfl, rfl⟩))
        go_roundw
        case rel => exact ⟨4, by omega, by go_num, by rw [HN.out]; exact hr, hq, hl, hb⟩
        case measure => decide
      | true =>
        rw [hb0] at H
        by_cases hd0 : s.d0 = 0
        · have k0 : ((s.d0 : Int) != 0) = false := by simp [hd0]
          have k0' : (((s.stw X).d0 : Int) != 0) = false := k0
          by_cases hd1 : s.d1 = 1
          · have k1 : ((s.d1 : Int) != 1) = false := by rw [hd1]; rfl
            have k1' : (((s.stw X).d1 : Int) != 1) = false := k1
            have HN : Hid (stK s v 4 = X ||| 8) := hide (by show st4 s v = _; unfold st4; rw [hb0, show setl s = true by unfold setl; rw [decide_eq_true hd0, decide_eq_true hd1]; rfl, if_pos (by decide)]; exact congrArg (fun z => z ||| 8) hX)
            clear hX
            go_wp2_with (first | (go_at_call 30; (with_reducible refine (H.out _).mono ?_); rintro e W ⟨rfl, rfl⟩))
            refine wp_region_held_drew (S := (fun V => RowAt V (w.heap.size + 1) zeroV.cells 31 ∧ RowAt V (w.heap.size + 2) lI 3 ∧ Below w.heap.size w V)) (by kernel_rfl) ?_ (fun hHeld => ?_)
            · exact ⟨hq.dr, hl.dr, hb.drew⟩
            replace hr := hr.dr
            generalize World.drew _ = V at hHeld hr ⊢
            clear hq hl hb
            refine tkO 0 (.pointer (some ⟨w.heap.size, 0, none⟩)) (by simp only [gT, gZ]; rfl) (puO (by (intro w hSw; (try dsimp only at hSw); go_simp))) ?_
            simp only [Act.put, pA, pZ, pS]
            refine tkO 2 (.slice (some ⟨w.heap.size + 2, 0, none⟩) 5 5) (by simp only [gT, gZ, gS]; rfl) (puO (by (intro w hSw; (try dsimp only at hSw); go_simp))) ?_
            simp only [Act.put, pA, pZ, pS]
            refine tkO 3 (.int .i64 3) (by simp only [gT, gZ, gS]; rfl) (puO (by (intro w hSw; (try dsimp only at hSw); go_simp))) ?_
            simp only [Act.put, pA, pZ, pS]
            refine tkO 4 (.pointer (some ⟨w.heap.size + 2, 3, none⟩)) (by simp only [gT, gZ, gS]; rfl) (puO (by (intro w hSw; (try dsimp only at hSw); go_simp))) ?_
            simp only [Act.put, pA, pZ, pS]
            refine tkO 5 (.int .i64 3) (by simp only [gT, gZ, gS]; rfl) (y_cell (w.heap.size + 2) 3 _ (fun V hV => (hV.2.1.cell _).trans lI_3) _ underlying3 rfl rfl) ?_
            simp only [Act.put, pA, pZ, pS]
            refine skO 1 (by simp only [gT, gZ, gS]; rfl) (fun K hK => ?_)
            rw [if_pos (by rfl)]
            (with_reducible refine s_ldc w.heap.size 0 ?_ _ (.int .u32 (X : Nat)) _ hr ?_ _ underlying22 ?_ ?_)
            · exact rfl
            · exact rfl
            · exact rfl
            have hH2 := hide hHeld
            clear hHeld
            refine hK.out _ _ ?_ (fun hHeld => ?_)
            · exact hH2.out
            clear hK K
            clear hH2
            refine skO 6 (by simp only [gT, gZ, gS]; rfl) (fun K hK => ?_)
            go_simp
            (with_reducible refine (HS.out _).mono ?_)
            rintro e V ⟨rfl, hbc⟩
            have hH2 := hide (And.intro (hHeld.1.bl hbc) (And.intro (hHeld.2.1.bl hbc) (below_bl rfl hHeld.2.2 hbc)))
            replace hr := hr.bl hbc
            clear hHeld hbc
            go_simp
            refine hK.out _ _ ?_ (fun hHeld => ?_)
            · exact hH2.out
            clear hK K
            clear hH2
            refine tkO 7 (.pointer (some ⟨w.heap.size, 0, none⟩)) (by simp only [gT, gZ, gS]; rfl) (puO (by (intro w hSw; (try dsimp only at hSw); go_simp))) ?_
            simp only [Act.put, pA, pZ, pS]
            refine skO 8 (by simp only [gT, gZ, gS]; rfl) (fun K hK => ?_)
            rw [if_pos (by rfl)]
            (with_reducible refine s_stc w.heap.size 0 ?_ (.int .u32 ((X ||| 8 : Nat) : Int)) ?_ _ (s.stw (X ||| 8)).cells _ hr ?_ ?_ ?_ ?_ ?_)
            · exact rfl
            · exact rfl
            · exact size_u32i
            · exact (show 0 < 21 by decide)
            · exact rfl
            · exact rfl
            intro V hnew ho
            have hH2 := hide (And.intro (hHeld.1.only ho (by omega)) (And.intro (hHeld.2.1.only ho (by omega)) (ho.bel _ _ (by omega) hHeld.2.2)))
            replace hr := hnew
            clear hHeld
            refine hK.out _ _ ?_ (fun hHeld => ?_)
            · exact hH2.out
            clear hK K
            clear hH2
            refine wpAnyH_done (by kernel_rfl) ?_ _
            have hq := hHeld.1
            have hl := hHeld.2.1
            have hb := hHeld.2.2
            clear hHeld
            go_wp2
            go_roundw
            case rel => exact ⟨4, by omega, by go_num, by rw [HN.out]; exact hr, hq, hl, hb⟩
            case measure => decide
          · have k1 : ((s.d1 : Int) != 1) = true := by simp; omega
            have k1' : (((s.stw X).d1 : Int) != 1) = true := k1
            have HN : Hid (stK s v 4 = X) := hide (by show st4 s v = _; unfold st4; rw [show setl s = false by unfold setl; rw [decide_eq_false hd1, Bool.and_false], Bool.and_false, if_neg (by decide)]; exact hX)
            clear hX
            go_wp2_with (first | (go_at_call 30; (with_reducible refine (H.out _).mono ?_); rintro e W ⟨rfl, rfl⟩))
            go_roundw
            case rel => exact ⟨4, by omega, by go_num, by rw [HN.out]; exact hr, hq, hl, hb⟩
            case measure => decide
        · have k0 : ((s.d0 : Int) != 0) = true := by simp; omega
          have k0' : (((s.stw X).d0 : Int) != 0) = true := k0
          have HN : Hid (stK s v 4 = X) := hide (by show st4 s v = _; unfold st4; rw [show setl s = false by unfold setl; rw [decide_eq_false hd0]; rfl, Bool.and_false, if_neg (by decide)]; exact hX)
          clear hX
          go_wp2_with (first | (go_at_call 30; (with_reducible refine (H.out _).mono ?_); rintro e W ⟨rfl, rfl⟩))
          go_roundw
          case rel => exact ⟨4, by omega, by go_num, by rw [HN.out]; exact hr, hq, hl, hb⟩
          case measure => decide
    · have HX := hide (stK_lt ok v 4)
      obtain ⟨X, hX⟩ : ∃ x, stK s v 4 = x := ⟨_, rfl⟩
      rw [hX] at hr HX
      have HS := hide (fun w => rset_2 X HX.out w)
      have H := hide (fun w => rhas_2 v hv w)
      have fx := hr.cell
      have fl := hl.cell
      have HB := hide (fun w => rhas_3 (s.stw X).st HX.out w)
      cases hb0 : v.testBit 2 with
      | false =>
        have HN : Hid (stK s v 5 = X) := hide (by show st5 s v = _; unfold st5; rw [hb0, Bool.false_and, if_neg (by decide)]; exact hX)
        rw [hb0] at H
        clear hX
        go_wp2_with (first | (go_at_call 30; (with_reducible refine (H.out _).mono ?_); rintro e W ⟨rfl, rfl⟩))
        go_roundw
        case rel => exact ⟨5, by omega, by go_num, by rw [HN.out]; exact hr, hq, hl, hb⟩
        case measure => decide
      | true =>
        rw [hb0] at H
        cases hb3 : X.testBit 3 with
        | false =>
          have HN : Hid (stK s v 5 = X) := hide (by show st5 s v = _; unfold st5; rw [show st4 s v = X from hX, hb3, Bool.and_false, if_neg (by decide)])
          rw [show (s.stw X).st.testBit 3 = false from hb3] at HB
          clear hX
          go_wp2_with (first | (go_at_call 30; (with_reducible refine (H.out _).mono ?_); rintro e W ⟨rfl, rfl⟩) | (go_at_call 30; (with_reducible refine (HB.out _).mono ?_); rintro e W ⟨rfl, rfl⟩))
          go_roundw
          case rel => exact ⟨5, by omega, by go_num, by rw [HN.out]; exact hr, hq, hl, hb⟩
          case measure => decide
        | true =>
          have HN : Hid (stK s v 5 = X ||| 4) := hide (by show st5 s v = _; unfold st5; rw [show st4 s v = X from hX, hb0, hb3]; rfl)
          rw [show (s.stw X).st.testBit 3 = true from hb3] at HB
          clear hX
          go_wp2_with (first | (go_at_call 30; (with_reducible refine (H.out _).mono ?_); rintro e W ⟨rfl, rfl⟩) | (go_at_call 30; (with_reducible refine (HB.out _).mono ?_); rintro e W ⟨rfl, rfl⟩))
          refine wp_region_held_drew (S := (fun V => RowAt V (w.heap.size + 1) zeroV.cells 31 ∧ RowAt V (w.heap.size + 2) lI 3 ∧ Below w.heap.size w V)) (by kernel_rfl) ?_ (fun hHeld => ?_)
          · exact ⟨hq.dr, hl.dr, hb.drew⟩
          replace hr := hr.dr
          generalize World.drew _ = V at hHeld hr ⊢
          clear hq hl hb
          refine tkO 0 (.pointer (some ⟨w.heap.size, 0, none⟩)) (by simp only [gT, gZ]; rfl) (puO (by (intro w hSw; (try dsimp only at hSw); go_simp))) ?_
          simp only [Act.put, pA, pZ, pS]
          refine tkO 2 (.slice (some ⟨w.heap.size + 2, 0, none⟩) 5 5) (by simp only [gT, gZ, gS]; rfl) (puO (by (intro w hSw; (try dsimp only at hSw); go_simp))) ?_
          simp only [Act.put, pA, pZ, pS]
          refine tkO 3 (.int .i64 4) (by simp only [gT, gZ, gS]; rfl) (puO (by (intro w hSw; (try dsimp only at hSw); go_simp))) ?_
          simp only [Act.put, pA, pZ, pS]
          refine tkO 4 (.pointer (some ⟨w.heap.size + 2, 4, none⟩)) (by simp only [gT, gZ, gS]; rfl) (puO (by (intro w hSw; (try dsimp only at hSw); go_simp))) ?_
          simp only [Act.put, pA, pZ, pS]
          refine tkO 5 (.int .i64 2) (by simp only [gT, gZ, gS]; rfl) (y_cell (w.heap.size + 2) 4 _ (fun V hV => (hV.2.1.cell _).trans lI_4) _ underlying3 rfl rfl) ?_
          simp only [Act.put, pA, pZ, pS]
          refine skO 1 (by simp only [gT, gZ, gS]; rfl) (fun K hK => ?_)
          rw [if_pos (by rfl)]
          (with_reducible refine s_ldc w.heap.size 0 ?_ _ (.int .u32 (X : Nat)) _ hr ?_ _ underlying22 ?_ ?_)
          · exact rfl
          · exact rfl
          · exact rfl
          have hH2 := hide hHeld
          clear hHeld
          refine hK.out _ _ ?_ (fun hHeld => ?_)
          · exact hH2.out
          clear hK K
          clear hH2
          refine skO 6 (by simp only [gT, gZ, gS]; rfl) (fun K hK => ?_)
          go_simp
          (with_reducible refine (HS.out _).mono ?_)
          rintro e V ⟨rfl, hbc⟩
          have hH2 := hide (And.intro (hHeld.1.bl hbc) (And.intro (hHeld.2.1.bl hbc) (below_bl rfl hHeld.2.2 hbc)))
          replace hr := hr.bl hbc
          clear hHeld hbc
          go_simp
          refine hK.out _ _ ?_ (fun hHeld => ?_)
          · exact hH2.out
          clear hK K
          clear hH2
          refine tkO 7 (.pointer (some ⟨w.heap.size, 0, none⟩)) (by simp only [gT, gZ, gS]; rfl) (puO (by (intro w hSw; (try dsimp only at hSw); go_simp))) ?_
          simp only [Act.put, pA, pZ, pS]
          refine skO 8 (by simp only [gT, gZ, gS]; rfl) (fun K hK => ?_)
          rw [if_pos (by rfl)]
          (with_reducible refine s_stc w.heap.size 0 ?_ (.int .u32 ((X ||| 4 : Nat) : Int)) ?_ _ (s.stw (X ||| 4)).cells _ hr ?_ ?_ ?_ ?_ ?_)
          · exact rfl
          · exact rfl
          · exact size_u32i
          · exact (show 0 < 21 by decide)
          · exact rfl
          · exact rfl
          intro V hnew ho
          have hH2 := hide (And.intro (hHeld.1.only ho (by omega)) (And.intro (hHeld.2.1.only ho (by omega)) (ho.bel _ _ (by omega) hHeld.2.2)))
          replace hr := hnew
          clear hHeld
          refine hK.out _ _ ?_ (fun hHeld => ?_)
          · exact hH2.out
          clear hK K
          clear hH2
          refine wpAnyH_done (by kernel_rfl) ?_ _
          have hq := hHeld.1
          have hl := hHeld.2.1
          have hb := hHeld.2.2
          clear hHeld
          go_wp2
          go_roundw
          case rel => exact ⟨5, by omega, by go_num, by rw [HN.out]; exact hr, hq, hl, hb⟩
          case measure => decide
    · go_wp2_with (first | ((with_reducible refine ld_vr w.heap.size _ hr ?_ ?_ ?_); exact rfl; exact rfl) | ((with_reducible refine st_vr (w.heap.size + 1) _ (s.stw (st5 s v)) hq ?_ ?_ ?_); exact rfl; exact rfl; intro W hnew ho; replace hr := hr.only ho (by omega); replace hq := hnew; replace hb := ho.bel _ _ (by omega) hb))
      refine bodyPost_ret (results_cell_row results65 _ _ (w.heap.size + 1) _ _ _ _ rfl hq underlying31 rfl size_vr) rfl ?_
      exact ⟨rfl, hb⟩
theorem rstat_any (s : V) (ok : s.Ok) (v : Nat) (hv : v < 4294967296) (w : World) : Calls prog 65 #[.agg s.cells, .int .u32 (v : Nat)] w fun e w' => e = .returned (.agg (statV s v).cells) ∧ Below w.heap.size w w' := by
  by_cases h : v = 0
  · exact rstat_0 s ok v h w
  · exact rstat_n s ok v hv h w
end Go.Proofs.YtbggkoahofnnjaaGreatDoor
namespace Go.Proofs.YtbggkoahofnnjaaGreatDoor
open Go.RowKit
theorem built_rr4 (r : Rg) : prog.built 26 [(0, .int .i64 r.sz), (1, .int .u32 (r.de : Nat)), (2, .int .u32 (r.av : Nat)), (3, .int .u32 (r.us : Nat))] = some ((r.law 0).puw 0).cells := by kernel_rfl
theorem built_qr2 (r : Rg) : prog.built 28 [(0, .bool true), (1, .agg r.cells)] = some (Qu.cells ⟨true, r⟩) := by kernel_rfl
theorem bd_rr4 {ops : Array Oper} {rest : List Oper} {dst : Option Tmp} {ty : TypeId} {pos : String} {after : Array Edge} {a : Act} {w : World} {Q : Exit → Act → World → Prop} {x0 x1 x2 x3 : Operand} (r : Rg) (h0 : a.eval x0 = .int .i64 r.sz) (h1 : a.eval x1 = .int .u32 (r.de : Nat)) (h2 : a.eval x2 = .int .u32 (r.av : Nat)) (h3 : a.eval x3 = .int .u32 (r.us : Nat))
    (k : wpList prog ops Q rest (a.put dst (.agg ((r.law 0).puw 0).cells)) w) : wpList prog ops Q (⟨dst, .build 26 #[(0, x0), (1, x1), (2, x2), (3, x3)], ty, pos, after, none⟩ :: rest) a w := by
  have hp : ((#[(0, x0), (1, x1), (2, x2), (3, x3)] : Array (Nat × Operand)).map fun (i, x) => (i, a.eval x)).toList = [(0, .int .i64 r.sz), (1, .int .u32 (r.de : Nat)), (2, .int .u32 (r.av : Nat)), (3, .int .u32 (r.us : Nat))] := by
    simp [h0, h1, h2, h3]
  refine wpList_build rfl 26 _ rfl ?_ ?_
  · rw [hp, built_rr4]; rfl
  · rw [hp, built_rr4]; exact k
theorem bd_qr2 {ops : Array Oper} {rest : List Oper} {dst : Option Tmp} {ty : TypeId} {pos : String} {after : Array Edge} {a : Act} {w : World} {Q : Exit → Act → World → Prop} {x0 x1 : Operand} (r : Rg) (h0 : a.eval x0 = .bool true) (h1 : a.eval x1 = .agg r.cells)
    (k : wpList prog ops Q rest (a.put dst (.agg (Qu.cells ⟨true, r⟩))) w) : wpList prog ops Q (⟨dst, .build 28 #[(0, x0), (1, x1)], ty, pos, after, none⟩ :: rest) a w := by
  have hp : ((#[(0, x0), (1, x1)] : Array (Nat × Operand)).map fun (i, x) => (i, a.eval x)).toList = [(0, .bool true), (1, .agg r.cells)] := by
    simp [h0, h1]
  refine wpList_build rfl 28 _ rfl ?_ ?_
  · rw [hp, built_qr2]; rfl
  · rw [hp, built_qr2]; exact k
theorem wqV_w {s : V} {a v : Nat} (hm : accV s a = 0) (hn : a ≠ 20 ∧ a ≠ 36 ∧ a ≠ 32 ∧ a ≠ 48 ∧ a ≠ 80 ∧ a ≠ 100 ∧ a ≠ 112) (hs : s.se < 2) : writeV s a v = (wqV s a v, -1, 0) := by
  unfold writeV; rw [if_pos hm]; unfold writeS
  rw [if_neg hn.1, if_neg hn.2.1, if_neg hn.2.2.1, if_neg hn.2.2.2.1, if_neg hn.2.2.2.2.1, if_neg hn.2.2.2.2.2.1, if_neg hn.2.2.2.2.2.2, if_pos hs]
theorem wqV_mr0 (s : V) (a v : Nat) (h : a ≠ 68) (hs : s.se = 0) (hr0 : s.q0.rd = false) : wqV s a v = regV s a v := by
  have e : s.q s.se = s.q0 := by rw [hs]; rfl
  unfold wqV
  rw [if_neg h, e, hr0, if_neg (by decide)]
theorem wqV_mr1 (s : V) (a v : Nat) (h : a ≠ 68) (hs : s.se = 1) (hr0 : s.q1.rd = false) : wqV s a v = regV s a v := by
  have e : s.q s.se = s.q1 := by rw [hs]; rfl
  unfold wqV
  rw [if_neg h, e, hr0, if_neg (by decide)]
end Go.Proofs.YtbggkoahofnnjaaGreatDoor
namespace Go.Proofs.YtbggkoahofnnjaaGreatDoor
open Go.RowKit
set_option maxHeartbeats 2000000
attribute [local go_sem] V.at0 V.at1 V.at2 V.at3 V.at4 V.at5 V.at6 V.at7 V.at8 V.at9 V.at10 V.at11 V.at12 V.at13 V.at14 V.at15 V.at16 V.at17 V.at18 V.at19 V.at20 Qu.at0 Qu.at1 Qu.at2 Qu.at3 Qu.at4 Qu.at5 Qu.at6
set_option maxRecDepth 20000 in
theorem rwd_far (s : V) (ok : s.Ok) (a v : Nat) (hv : v < 4294967296) (hm : accV s a = 0) (n20 : a ≠ 20) (n36 : a ≠ 36) (n32 : a ≠ 32) (n48 : a ≠ 48) (n80 : a ≠ 80) (n100 : a ≠ 100) (n112 : a ≠ 112) (hs : 2 ≤ s.se) (w : World) :
    Calls prog 27 #[.agg s.cells, .int .u32 (a : Nat), .int .u32 (v : Nat)] w fun e w' => e = .returned (.tuple #[.agg (writeV s a v).1.cells, .int .i64 (writeV s a v).2.1, .int .i64 ((writeV s a v).2.2 : Nat)]) ∧ Below w.heap.size w w' := by
  have HV : writeV s a v = (s, -1, 0) := by unfold writeV; rw [if_pos hm]; unfold writeS; rw [if_neg n20, if_neg n36, if_neg n32, if_neg n48, if_neg n80, if_neg n100, if_neg n112, if_neg (show ¬ s.se < 2 by omega)]
  rw [HV]; clear HV
  have HC := hide (fun w => rvcheck_any s ok w)
  rw [(accV_ok hm).1] at HC
  replace HC : Hid (∀ w, Calls prog 14 #[.agg s.cells] w fun e w' => e = .returned (.int .i64 0) ∧ Below w.heap.size w w') := HC
  have hA := accV_ok hm
  have h256 := hA.2.1
  have h4 := hA.2.2
  have g1 : decide ((a : Int) > 255) = false := by simp; omega
  have g2 : decide ((255 : Int) < (a : Int)) = false := by simp; omega
  have g3 : decide (255 < a) = false := by simp; omega
  have o1 : (((a : Int) % 4) != 0) = false := by simp; omega
  have o2 : ((((a % 4 : Nat)) : Int) != 0) = false := by simp; omega
  clear hA h4
  have l20 : ((a : Int) == 20) = false := by simp; omega
  have m20 : (a == 20) = false := by simp; omega
  have l36 : ((a : Int) == 36) = false := by simp; omega
  have m36 : (a == 36) = false := by simp; omega
  have l32 : ((a : Int) == 32) = false := by simp; omega
  have m32 : (a == 32) = false := by simp; omega
  have l48 : ((a : Int) == 48) = false := by simp; omega
  have m48 : (a == 48) = false := by simp; omega
  have l80 : ((a : Int) == 80) = false := by simp; omega
  have m80 : (a == 80) = false := by simp; omega
  have l100 : ((a : Int) == 100) = false := by simp; omega
  have m100 : (a == 100) = false := by simp; omega
  have l112 : ((a : Int) == 112) = false := by simp; omega
  have m112 : (a == 112) = false := by simp; omega
  have lse : (s.se : Int) > 1 := by omega
  have lseb : (1 : Int) < (s.se : Int) := by omega
  clear hs n20 n36 n32 n48 n80 n100 n112
  go_enter func27, ntmps27
  go_wp2_with (first | ((with_reducible refine bx_vr w.heap.size s ?_ ?_ ?_); exact rfl; exact rfl; intro W hr hb hz; have fx := hr.cell) | ((with_reducible refine al_vr (w.heap.size + 1) ?_ ?_); exact hz.out; intro W hq hb' hz'; replace hr := hr.bl (hz.out ▸ hb'); replace hb := hb.trans (hb'.mono (by omega)); replace hz := hz'; replace fx := hr.cell) | (go_at_call 14; (with_reducible refine (HC.out _).mono ?_); rintro e W ⟨rfl, hbc⟩; replace hr := hr.bl hbc; replace hq := hq.bl hbc; replace fx := hr.cell; replace hb := below_bl rfl hb hbc) | ((with_reducible refine ld_se w.heap.size _ _ hr ?_ ?_ ?_); exact rfl; exact rfl) | ((with_reducible refine ld_vr w.heap.size _ hr ?_ ?_ ?_); exact rfl; exact rfl) | ((with_reducible refine st_vr (w.heap.size + 1) _ s hq ?_ ?_ ?_); exact rfl; exact rfl; intro W hnew ho; replace hr := hr.only ho (by omega); replace hq := hnew; replace hb := ho.bel _ _ (by omega) hb))
  all_goals (refine bodyPost_ret (results_cell_two' results27 _ _ (w.heap.size + 1) _ _ _ rfl hq underlying31 rfl size_vr) rfl ?_; exact ⟨rfl, hb⟩)
end Go.Proofs.YtbggkoahofnnjaaGreatDoor
