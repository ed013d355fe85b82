/-
  NicBack, walked.
-/
import Derived.Test.YtbggkoahofnnjaaDoorJK26
import Derived.Test.YtbggkoahofnnjaaDoorJK29
import Derived.Test.YtbggkoahofnnjaaDoorJK24
import Derived.Test.YtbggkoahofnnjaaDoorJK25
import Derived.Test.YtbggkoahofnnjaaDoorJK19
import Derived.Test.YtbggkoahofnnjaaDoorJK30
namespace Go.Proofs.YtbggkoahofnnjaaDoor
open Go.RowKit
set_option linter.unusedVariables false
set_option linter.unusedSimpArgs false

variable {ops : Array Oper} {rest : List Oper} {dst : Option Tmp} {ty : TypeId} {pos : String} {after : Array Edge} {a : Act} {w : World} {Q : Exit → Act → World → Prop} {K : Act → World → Prop} {x y : Operand} {gd : Option (Nat × Bool)}
def suC : Array Value := #[.int .u32 (0), .int .u32 (2147484416), .int .u32 (8), .int .u32 (13), .int .u32 (256), .int .u32 (65536), .int .u32 (780), .int .u32 (7)]
theorem bs_su (N : Nat) (hN : w.heap.size = N) (x0 x1 x2 x3 : Operand) (h0 : a.eval x0 = .agg #[.int .u32 (0), .int .u32 (2147484416)]) (h1 : a.eval x1 = .agg #[.int .u32 (8), .int .u32 (13)]) (h2 : a.eval x2 = .agg #[.int .u32 (256), .int .u32 (65536)]) (h3 : a.eval x3 = .agg #[.int .u32 (780), .int .u32 (7)])
    (kont : ∀ W, RowAt W N (suC) 32 → Below N w W → Hid (W.heap.size = N + 1) → wpList Tryd.prog ops Q rest (a.put dst (.slice (some ⟨N, 0, none⟩) 4 4)) W) :
    wpList Tryd.prog ops Q (⟨dst, .buildSlice 33 4 #[(0, x0), (1, x1), (2, x2), (3, x3)], ty, pos, after, none⟩ :: rest) a w :=
  op_bsn 33 32 4 Tryd.underlying33 (suC) N hN [(0, .agg #[.int .u32 (0), .int .u32 (2147484416)]), (1, .agg #[.int .u32 (8), .int .u32 (13)]), (2, .agg #[.int .u32 (256), .int .u32 (65536)]), (3, .agg #[.int .u32 (780), .int .u32 (7)])] (by simp [h0, h1, h2, h3]) ⟨by kernel_rfl⟩ kont
theorem pairs_su {W : World} {N B : Nat} (h : RowAt W N (suC) 32) (hB : N < B) : PairsAt W B (some ⟨N, 0, none⟩) 4 (suG) := by
  refine ⟨fun j hj => ⟨N, 0, rfl, hB, ?_, ?_⟩, fun j hj => ?_⟩
  · rw [h.cell]; rcases j with _ | _ | _ | _ | j <;> first | rfl | omega
  · rw [h.cell]; rcases j with _ | _ | _ | _ | j <;> first | rfl | omega | (simp [suC, suG]; done) | (simp [suC, suG]; omega)
  · rcases j with _ | _ | _ | _ | j <;> first | (constructor <;> decide) | omega | (constructor <;> first | decide | (simp [suG]; done) | (simp [suG]; omega))
theorem map_one {α β : Type} {l : List (α × β)} {x : α} (h : l.map (·.1) = [x]) : ∃ y, l = [(x, y)] := by
  rcases l with _ | ⟨⟨a, b⟩, _ | ⟨c, t⟩⟩
  · cases h
  · simp only [List.map_cons, List.map_nil, List.cons.injEq, and_true] at h; exact ⟨b, by rw [h]⟩
  · simp at h
theorem frs_one {W : World} {B : Nat} {O : Nat → Prop} {ov dv : Value} {fr : List Nat} (h : FrsAt W B O ov [(fr, dv)]) : ∃ g cap, ov = .slice (some ⟨g, 0, none⟩) 1 cap := by
  obtain ⟨g, cap, e, _⟩ := own_pos h.row (by show 0 < 1; decide)
  exact ⟨g, cap, e⟩
theorem frs_cell {W : World} {B g cap n : Nat} {O : Nat → Prop} {l : List (List Nat × Value)} {fr : List Nat} {dv : Value} (h : FrsAt W B O (.slice (some ⟨g, 0, none⟩) n cap) l) (j : Nat) (hj : l[j]? = some (fr, dv)) : W.cell? ⟨g, j, none⟩ = some dv := by
  obtain ⟨g', cap', e, _, _, _, _, hc⟩ := own_pos h.row (by have := (List.getElem?_eq_some_iff.1 hj).1; omega)
  injection e with e1 e2 e3
  cases e1
  exact hc j dv (by rw [List.getElem?_map, hj]; rfl)
theorem conv_fr {W : World} {B : Nat} {O : Nat → Prop} {fr : List Nat} {dv : Value} (h : FrAt W B O fr dv) : (convert 22 9 dv).run Tryd.prog W = .ok (.string (txtR fr)) W := by
  obtain ⟨g, cap, all, rfl, h0, h1, h2, rfl, h3, h4⟩ := h.ex
  have hc := fun j u hu => h1.cells (g := g) rfl j u hu
  have k := conv_row (w := W) (g := g) (o := 12) (l := all.length - 12) (c := cap - 12) (f := fun j => ((all.drop 12)[j]?).getD 0) (fun j => by
    cases e : (all.drop 12)[j]? with
    | none => show (0 : Nat) < 256; decide
    | some y => exact h4 y (List.mem_of_mem_drop (List.mem_of_getElem? e))) (fun j hj => by
    have hj2 : 12 + j < all.length := by omega
    have := hc (12 + j) (.int .u8 ((((all.drop 12)[j]?).getD 0 : Nat) : Int)) (by rw [byteV, List.getElem?_map, List.getElem?_drop, List.getElem?_eq_getElem hj2]; rfl)
    rwa [show (⟨g, 0, none⟩ : Addr).add (12 + j) = ⟨g, 12 + j, none⟩ by unfold Addr.add; split <;> simp_all] at this)
  rw [show all.length - 12 = (all.drop 12).length by rw [List.length_drop], getD_range] at k
  rw [show all.length - 12 = (all.drop 12).length by rw [List.length_drop]]
  exact k
/-- Send of the device that works, when one frame comes of it. -/
theorem send_lv {W : World} {B b c : Nat} {f f2 : Nat → Nat} {O : Nat → Prop} (hM : RamB W B b 2 f c O) (hA : AreasAt W) (hG : 0 < B) (hc : c ≤ 100000) {s t : Nc} (ok : s.Ok) {fr : List Nat} (hp : sendV 2 f s = (f2, t, [fr])) :
    Calls Tryd.prog 9 #[.agg s.c, .pointer (some ⟨b, 0, none⟩)] W fun e w' => ∃ g cap dv O', e = .returned (.tuple #[.agg t.c, .slice (some ⟨g, 0, none⟩) 1 cap]) ∧ RamB w' B b 2 f2 (c + 1200) O' ∧ Went B O O' W w' ∧ FrsAt w' W.heap.size O' (.slice (some ⟨g, 0, none⟩) 1 cap) [(fr, dv)] := by
  have h := nsend_any s ok hM hA hG (by omega)
  rw [hp] at h
  refine h.mono ?_
  rintro e w' ⟨ov, ls, O', rfl, h1, h2, h3, h4⟩
  simp only at h1
  obtain ⟨dv, rfl⟩ := map_one h1
  obtain ⟨g, cap, rfl⟩ := frs_one h4
  exact ⟨g, cap, dv, O', rfl, h2, h3, h4⟩
def suT : Nc := ⟨lvN 1 1 1 1, false, 0⟩
set_option maxRecDepth 20000 in
set_option maxHeartbeats 4000000 in
theorem nsure_any (w : World) (hA : AreasAt w) : Calls Tryd.prog 4 #[] w fun e w' => e = .returned (.bool true) ∧ Below w.heap.size w w' := by
  obtain ⟨B, hB⟩ : ∃ B, w.heap.size = B := ⟨_, rfl⟩
  have hG0 : 0 < B := hB ▸ hA.lt
  have hG : 0 < B + 1 + 1 := by omega
  have hA0 := hA
  rw [hB]
  have HBo : Hid (∀ W, W.heap.size = B + 1 → RowAt W B suC 32 → Calls Tryd.prog 5 #[.slice (some ⟨B, 0, none⟩) 4 4] W fun e w' => ∃ b O r, e = .returned (.tuple #[.pointer (some ⟨b, 0, none⟩), .agg (RP.v r 8192 2)]) ∧ RamB w' (B + 1 + 1) b 2 suF 80 O ∧ Below (B + 1) W w') := hide (fun W hz hr => by
    have h := rboth_any (some ⟨B, 0, none⟩) 4 4 suG W (pairs_su hr (by omega)) (by decide) (by decide)
    rw [hz] at h
    exact h.mono (by
      rintro e w' ⟨b, f, O, r, hf, he, h1, _, h3⟩
      rw [hf] at h1
      exact ⟨b, O, r, he, h1, h3⟩))
  have HLi := hide live_1
  have HSe : Hid (∀ W O1 b, RamB W (B + 1 + 1) b 2 suF 80 O1 → AreasAt W → Calls Tryd.prog 9 #[.agg (lvS 1).c, .pointer (some ⟨b, 0, none⟩)] W fun e w' => ∃ g cap dv O', e = .returned (.tuple #[.agg suT.c, .slice (some ⟨g, 0, none⟩) 1 cap]) ∧ RamB w' (B + 1 + 1) b 2 (sendV 2 suF (lvS 1)).1 1280 O' ∧ Went (B + 1 + 1) O1 O' W w' ∧ FrsAt w' W.heap.size O' (.slice (some ⟨g, 0, none⟩) 1 cap) [([7], dv)]) := hide (fun W O1 b hM hA => send_lv hM hA hG (by decide) (lvS_ok 1) (by
    have h := su_send
    exact Prod.ext rfl h))
  generalize (sendV 2 suF (lvS 1)).1 = f9 at *
  clear hA
  go_enter Tryd.func4, Tryd.ntmps4
  go_wp2_with (first | ((with_reducible refine bs_su B ?_ _ _ _ _ ?_ ?_ ?_ ?_ ?_); exact hB; exact rfl; exact rfl; exact rfl; exact rfl; intro W hq hb hz) | (go_at_call 5; (with_reducible refine (HBo.out _ hz.out hq).mono ?_); rintro e W1 ⟨b, O, r, rfl, hM, hbc⟩; replace hb := hb.trans (hbc.mono (by omega)); have hA := hA0.bl (hB ▸ hb); obtain ⟨NX, hNX0⟩ : ∃ n, W1.heap.size = n := ⟨_, rfl⟩; have hNX := hide hNX0; have hNB : B + 1 + 1 ≤ NX := hNX0 ▸ hM.base; have hnx : ¬ O NX := (fun e => absurd (hM.lt _ e) (by omega)); clear hNX0 hbc hq hz) | ((with_reducible refine al_Rz NX ?_ ?_); exact hNX.out; intro W hx hb' hz2; have hbc : Below W1.heap.size W1 W := (by rw [hNX.out]; exact hb'); replace hb := hb.trans (hb'.mono (by omega)); replace hM := hM.bl hbc; replace hA := hA.bl hbc; clear hb' hbc) | ((with_reducible refine st_R NX _ r 8192 2 hx ?_ ?_ ?_ ?_); exact rfl; exact rfl; exact rfl; intro W hnew hoo; replace hM := hM.only hoo hnx; replace hA := hA.onlyR hoo (by omega); replace hb := hoo.bel _ _ (by omega) hb; clear hnew hoo hx) | (go_at_call 7; (with_reducible refine (HLi.out _).mono ?_); rintro e W ⟨rfl, hbc⟩; replace hb := hb.trans (hbc.mono (by have := hM.base; omega)); replace hM := hM.bl hbc; replace hA := hA.bl hbc; clear hbc) | (go_at_call 9; (with_reducible refine (HSe.out _ _ _ hM hA).mono ?_); rintro e W2 ⟨ga, ca, dv, O2, rfl, hM2, hW2, hY⟩; replace hb := hb.trans (hW2.below.mono (by omega)); replace hA := hA.wentR hG hW2; replace hM := hM2; clear hM2 hW2; obtain ⟨NR, hNR0⟩ : ∃ n, W2.heap.size = n := ⟨_, rfl⟩; have hNR := hide hNR0; have hRB : B + 1 + 1 ≤ NR := hNR0 ▸ hM.base; have hnr : ¬ O2 NR := (fun e => absurd (hM.lt _ e) (by omega)); clear hNR0) | ((with_reducible refine al_nc NR ?_ ?_); exact hNR.out; intro W hr hb' hz2; have hbc : Below W2.heap.size W2 W := (by rw [hNR.out]; exact hb'); replace hb := hb.trans (hb'.mono (by omega)); replace hY := hY.bl hbc; clear hM hA hb' hbc hz2) | ((with_reducible refine st_nc NR _ suT hr ?_ ?_ ?_); exact rfl; exact rfl; intro W hnew hoo; replace hb := hoo.bel _ _ (by omega) hb; replace hY := hY.only hoo hr (by decide) (by decide); (have hc0 := frs_cell hY 0 rfl); (have hcv : (convert 22 9 dv).run Tryd.prog _ = .ok (.string ⟨#[7]⟩) _ := conv_fr (hY.dat _ (List.mem_singleton.2 rfl))); (have fx := hnew.cell 4); (have fy : suT.c[4]? = some (.int .u32 1) := rfl); rw [fy] at fx; clear fy hY hoo hr hnew))
  go_ret
  exact ⟨rfl, hb⟩
end Go.Proofs.YtbggkoahofnnjaaDoor
namespace Go.Proofs.YtbggkoahofnnjaaDoor
open Go.RowKit
set_option linter.unusedVariables false
set_option linter.unusedSimpArgs false

variable {ops : Array Oper} {rest : List Oper} {dst : Option Tmp} {ty t t2 : TypeId} {S : World → Prop} {pos : String} {after : Array Edge} {a : Act} {w : World} {Q : Exit → Act → World → Prop} {K : Act → World → Prop} {x y : Operand} {gd : Option (Nat × Bool)}
theorem y_conv {P : Program} (v r : Value) (hS : ∀ V, S V → (convert t t2 v).run P V = .ok r V) (hx : a.eval x = v) (hw : Region.wanted ⟨dst, .convert t t2 x, ty, pos, after, gd⟩ (yielded ops a.tmps) = true) :
    YieldsIf P ops S ⟨dst, .convert t t2 x, ty, pos, after, gd⟩ r a := by
  refine .inl ⟨hw, fun V hV => ?_⟩
  unfold execOp
  simp only [hx, Sem.run_bind, hS V hV, Result.andThen_ok, Sem.run_pure]
theorem y_cellg {P : Program} (b j : Nat) (v : Value) (hS : ∀ V, S V → V.cell? ⟨b, j, none⟩ = some v) (d : TypeDesc) (hu : P.underlying t = some d) (hd : d.isRow = false) (hx : a.eval x = .pointer (some ⟨b, j, none⟩)) (hw : Region.wanted ⟨dst, .load t x, ty, pos, after, gd⟩ (yielded ops a.tmps) = true) :
    YieldsIf P ops S ⟨dst, .load t x, ty, pos, after, gd⟩ v a := by
  rcases y_cell (ops := ops) (P := P) (t := t) (dst := dst) (ty := ty) (after := after) (a := a) (x := x) (pos := pos) (S := S) b j v hS d hu hd hx with ⟨_, h2⟩ | ⟨h1, _⟩
  · exact .inl ⟨hw, fun V hV => h2 V hV⟩
  · simp [Region.wanted] at h1
def bkC (n c : Nat) : Array Value := #[.int .u32 (0), .int .u32 (2147487744), .int .u32 (8), .int .u32 ((c : Nat)), .int .u32 (12), .int .u32 (65539), .int .u32 (16), .int .u32 (2147489792), .int .u32 (24), .int .u32 (((n - c : Nat) : Int)), .int .u32 (28), .int .u32 (2), .int .u32 (256), .int .u32 (65536)]
theorem bs_bk (n c : Nat) (N : Nat) (hN : w.heap.size = N) (x0 x1 x2 x3 x4 x5 x6 : Operand) (h0 : a.eval x0 = .agg #[.int .u32 (0), .int .u32 (2147487744)]) (h1 : a.eval x1 = .agg #[.int .u32 (8), .int .u32 ((c : Nat))]) (h2 : a.eval x2 = .agg #[.int .u32 (12), .int .u32 (65539)]) (h3 : a.eval x3 = .agg #[.int .u32 (16), .int .u32 (2147489792)]) (h4 : a.eval x4 = .agg #[.int .u32 (24), .int .u32 (((n - c : Nat) : Int))]) (h5 : a.eval x5 = .agg #[.int .u32 (28), .int .u32 (2)]) (h6 : a.eval x6 = .agg #[.int .u32 (256), .int .u32 (65536)])
    (kont : ∀ W, RowAt W N (bkC n c) 32 → Below N w W → Hid (W.heap.size = N + 1) → wpList Tryd.prog ops Q rest (a.put dst (.slice (some ⟨N, 0, none⟩) 7 7)) W) :
    wpList Tryd.prog ops Q (⟨dst, .buildSlice 33 7 #[(0, x0), (1, x1), (2, x2), (3, x3), (4, x4), (5, x5), (6, x6)], ty, pos, after, none⟩ :: rest) a w :=
  op_bsn 33 32 7 Tryd.underlying33 (bkC n c) N hN [(0, .agg #[.int .u32 (0), .int .u32 (2147487744)]), (1, .agg #[.int .u32 (8), .int .u32 ((c : Nat))]), (2, .agg #[.int .u32 (12), .int .u32 (65539)]), (3, .agg #[.int .u32 (16), .int .u32 (2147489792)]), (4, .agg #[.int .u32 (24), .int .u32 (((n - c : Nat) : Int))]), (5, .agg #[.int .u32 (28), .int .u32 (2)]), (6, .agg #[.int .u32 (256), .int .u32 (65536)])] (by simp [h0, h1, h2, h3, h4, h5, h6]) ⟨by kernel_rfl⟩ kont
theorem pairs_bk (n c : Nat) {W : World} {N B : Nat} (h : RowAt W N (bkC n c) 32) (hB : N < B) (hc : c ≤ n) (hn : n ≤ 1012) : PairsAt W B (some ⟨N, 0, none⟩) 7 (bkW n c) := by
  refine ⟨fun j hj => ⟨N, 0, rfl, hB, ?_, ?_⟩, fun j hj => ?_⟩
  · rw [h.cell]; rcases j with _ | _ | _ | _ | _ | _ | _ | j <;> first | rfl | omega
  · rw [h.cell]; rcases j with _ | _ | _ | _ | _ | _ | _ | j <;> first | rfl | omega | (simp [bkC, bkW]; done) | (simp [bkC, bkW]; omega)
  · rcases j with _ | _ | _ | _ | _ | _ | _ | j <;> first | (constructor <;> decide) | omega | (constructor <;> first | decide | (simp [bkW]; done) | (simp [bkW]; omega))
theorem btxt_empty (W : World) (a : Option Addr) (c : Nat) : (convert 22 9 (.slice a 0 c)).run Tryd.prog W = .ok (.string ⟨#[]⟩) W := by
  cases a with
  | none => exact run_convert_bytes_nil (P := Tryd.prog) W 22 5 Tryd.underlying22 Tryd.underlying5 0 c 9 Tryd.underlying9
  | some a => exact run_convert_bytes_back W _ _ 5 a c [] Tryd.underlying22 Tryd.underlying5 Tryd.underlying9 (fun j hj => absurd hj (by simp))
theorem bconv_in {W w : World} {B : Nat} {ba : Option Addr} {bl : List Nat} (h : BytesAt w B ba bl) (hb : Below B w W) (c : Nat) : (convert 22 9 (.slice ba bl.length c)).run Tryd.prog W = .ok (.string (txtR bl)) W := by
  rcases Nat.eq_zero_or_pos bl.length with e | e
  · obtain rfl : bl = [] := List.eq_nil_of_length_eq_zero e
    exact btxt_empty W ba c
  · obtain ⟨b, o, rfl, hbb, hc⟩ := h.lies e
    have k := conv_row (w := W) (g := b) (o := o) (l := bl.length) (c := c) (f := fun j => (bl[j]?).getD 0) (fun j => by
      cases e : bl[j]? with
      | none => show (0 : Nat) < 256; decide
      | some y => exact h.small y (List.mem_of_getElem? e)) (fun j hj => by
      rw [hb.cell (p := ⟨b, o + j, none⟩) hbb, hc j hj, List.getElem?_eq_getElem hj]; rfl)
    rw [getD_range] at k
    exact k
set_option maxRecDepth 20000 in
set_option maxHeartbeats 8000000 in
theorem back_walk (cut : Int) (ba : Option Addr) (bl : List Nat) (bcap : Nat) (w : World) (hBy : BytesAt w w.heap.size ba bl) (hBc : bl.length ≤ bcap) (hBm : bcap ≤ 9223372036854775807) (hA : AreasAt w) :
    Calls Tryd.prog 3 #[.slice ba bl.length bcap, .int .i64 cut] w fun e w' => e = .returned (.bool true) ∧ Below w.heap.size w w' := by
  obtain ⟨B, hB⟩ : ∃ B, w.heap.size = B := ⟨_, rfl⟩
  have hG0 : 0 < B := hB ▸ hA.lt
  have hG : 0 < B + 1 + 1 := by omega
  have HA0 : Hid (∀ W, Below B w W → AreasAt W) := hide (fun W hb => hA.belR hG0 hb)
  rw [hB] at hBy ⊢
  have HBy := hide hBy
  have HSu : Hid (∀ W, Below B w W → Calls Tryd.prog 4 #[] W fun e w' => e = .returned (.bool true) ∧ Below W.heap.size W w') := hide (fun W hb => nsure_any W (HA0.out W hb))
  obtain ⟨M, hM0⟩ : ∃ M, bl.length = M := ⟨_, rfl⟩
  have hsml : ∀ hh : M < 1 ∨ 1000 < M, Calls Tryd.prog 3 #[.slice ba M bcap, .int .i64 cut] w fun e w' => e = .returned (.bool true) ∧ Below B w w' := by
    intro hh
    have hb0 : Below B w w := Below.refl _ _
    by_cases h1 : M < 1
    · have t1 : decide ((M : Int) < 1) = true := decide_eq_true (by omega)
      go_enter Tryd.func3, Tryd.ntmps3
      go_wp2_with (first | (go_at_call 4; (with_reducible refine (HSu.out _ hb0).mono ?_); rintro e W ⟨rfl, hbc⟩))
      go_ret
      exact ⟨rfl, hB ▸ hbc⟩
    · have t1 : decide ((M : Int) < 1) = false := decide_eq_false (by omega)
      have t2 : decide ((1000 : Int) < (M : Int)) = true := decide_eq_true (by omega)
      go_enter Tryd.func3, Tryd.ntmps3
      go_wp2_with (first | (go_at_call 4; (with_reducible refine (HSu.out _ hb0).mono ?_); rintro e W ⟨rfl, hbc⟩))
      go_ret
      exact ⟨rfl, hB ▸ hbc⟩
  by_cases hh : M < 1 ∨ 1000 < M
  · rw [hM0]; exact hsml hh
  clear hsml
  have t1 : decide ((M : Int) < 1) = false := decide_eq_false (by omega)
  have t2 : decide ((1000 : Int) < (M : Int)) = false := decide_eq_false (by omega)
  obtain ⟨n, hn0⟩ : ∃ n, M + 12 = n := ⟨_, rfl⟩
  obtain ⟨n1, hn1⟩ : ∃ n1, n + 1 = n1 := ⟨_, rfl⟩
  obtain ⟨c, hc0⟩ : ∃ c : Nat, cut % 18446744073709551616 % (n1 : Int) = (c : Int) := ⟨(cut % 18446744073709551616 % (n1 : Int)).toNat, by
    have := Int.emod_nonneg (cut % 18446744073709551616) (show (n1 : Int) ≠ 0 by omega)
    omega⟩
  have hc : (IntKind.u64.wrap cut).tmod (n1 : Int) = (c : Int) := by rw [IntKind.wrap_u64, Int.tmod_eq_emod_of_nonneg (by omega)]; exact hc0
  have hcl : c ≤ n := by
    have := Int.emod_lt_of_pos (cut % 18446744073709551616) (show (0 : Int) < (n1 : Int) by omega)
    omega
  have hn9 : n ≤ 1012 := by omega
  have e1 : (12 : Int) + (M : Int) = (n : Int) := by omega
  have e1w : IntKind.i64.wrap (12 + (M : Int)) = (n : Int) := by rw [IntKind.wrap_i64]; omega
  have e2 : IntKind.u32.wrap (n : Int) = (n : Int) := by rw [IntKind.wrap_u32]; omega
  have e2m : (n : Int) % 4294967296 = (n : Int) := by omega
  have e3 : (n : Int) + 1 = (n1 : Int) := by omega
  have e3w : IntKind.u32.wrap ((n : Int) + 1) = (n1 : Int) := by rw [IntKind.wrap_u32]; omega
  have e4 : IntKind.u64.wrap (n1 : Int) = (n1 : Int) := by rw [IntKind.wrap_u64]; omega
  have e4m : (n1 : Int) % 18446744073709551616 = (n1 : Int) := by omega
  have e4z : ((n1 : Int) == 0) = false := by simp; omega
  have e5 : IntKind.u32.wrap (c : Int) = (c : Int) := by rw [IntKind.wrap_u32]; omega
  have e5m : (c : Int) % 4294967296 = (c : Int) := by omega
  have e6 : IntKind.u64.wrap (c : Int) = (c : Int) := by rw [IntKind.wrap_u64]; omega
  have e7 : IntKind.u32.wrap ((n : Int) - (c : Int)) = ((n - c : Nat) : Int) := by rw [IntKind.wrap_u32]; omega
  have E7 := hide (show (n : Int) - (c : Int) = ((n - c : Nat) : Int) by omega)
  have E7m := hide (show ((n : Int) - (c : Int)) % 4294967296 = ((n - c : Nat) : Int) by omega)
  have E7w := hide e7
  clear e7 hc0
  have hf0 := bk_off n c
  have htk := bk_take hf0 hcl hn9 bl (by omega) (by omega)
  have hsd := bk_send hf0 hcl hn9 bl (by omega) (by omega)
  have HBo : Hid (∀ W, W.heap.size = B + 1 → RowAt W B (bkC n c) 32 → Calls Tryd.prog 5 #[.slice (some ⟨B, 0, none⟩) 7 7] W fun e w' => ∃ b O r, e = .returned (.tuple #[.pointer (some ⟨b, 0, none⟩), .agg (RP.v r 8192 2)]) ∧ RamB w' (B + 1 + 1) b 2 (laidW (bkW n c) 7) 80 O ∧ Below (B + 1) W w') := hide (fun W hz hr => by
    have h := rboth_any (some ⟨B, 0, none⟩) 7 7 (bkW n c) W (pairs_bk n c hr (by omega) hcl hn9) (by decide) (by decide)
    rw [hz] at h
    exact h.mono (by
      rintro e w' ⟨b, f, O, r, hf, he, h1, _, h3⟩
      rw [hf] at h1
      exact ⟨b, O, r, he, h1, h3⟩))
  obtain ⟨f0, hf00⟩ : ∃ x, laidW (bkW n c) 7 = x := ⟨_, rfl⟩
  rw [hf00] at HBo htk hsd
  obtain ⟨f1, hf1⟩ : ∃ x, bkF f0 n c (headL ++ bl) = x := ⟨_, rfl⟩
  rw [hf1] at htk hsd
  have HL0 := hide live_0
  have HL1 := hide live_1
  have HTk : Hid (∀ W O1 b, RamB W (B + 1 + 1) b 2 f0 80 O1 → Below B w W → Calls Tryd.prog 6 #[.agg (lvS 0).c, .pointer (some ⟨b, 0, none⟩), .slice ba M bcap] W fun e w' => e = .returned (.tuple #[.agg (⟨lvN 0 1 1 1, true, 0⟩ : Nc).c, .bool true, .nilIface]) ∧ ∃ O', RamB w' (B + 1 + 1) b 2 f1 380 O' ∧ Went (B + 1 + 1) O1 O' W w') := hide (fun W O1 b hM hb => by
    have := ntake_any (lvS 0) (lvS_ok 0) bl bcap ba hM (HA0.out W hb) hG ((⟨fun h0 => by
      obtain ⟨x, o, e, h1, h2⟩ := (HBy.out.bel hb).lies h0
      exact ⟨x, o, e, by omega, h2⟩, HBy.out.small⟩ : BytesAt W (B + 1 + 1) ba bl)) hBc hBm (by decide)
    rw [htk, hM0] at this
    exact this)
  have HS1 : Hid (∀ W O1 b, RamB W (B + 1 + 1) b 2 f1 380 O1 → Calls Tryd.prog 8 #[.pointer (some ⟨b, 0, none⟩), .int .u32 12, .int .i64 4, .int .u32 65537] W fun e w' => e = .returned .nilIface ∧ ∃ O', RamB w' (B + 1 + 1) b 2 (wroteF f1 12 (numB 65537 4)) 381 O' ∧ Went (B + 1 + 1) O1 O' W w') := hide (fun W O1 b hM => store_b hM 12 4 (by decide) (.inr (.inr rfl)) (by decide) (by decide) 65537 (by decide) (by decide))
  have HS2 : Hid (∀ W O1 b, RamB W (B + 1 + 1) b 2 (wroteF f1 12 (numB 65537 4)) 381 O1 → Calls Tryd.prog 8 #[.pointer (some ⟨b, 0, none⟩), .int .u32 28, .int .i64 4, .int .u32 0] W fun e w' => e = .returned .nilIface ∧ ∃ O', RamB w' (B + 1 + 1) b 2 (bkG f1) 382 O' ∧ Went (B + 1 + 1) O1 O' W w') := hide (fun W O1 b hM => store_b hM 28 4 (by decide) (.inr (.inr rfl)) (by decide) (by decide) 0 (by decide) (by decide))
  obtain ⟨f9, hf9⟩ : ∃ f9, sendV 2 (bkG f1) (lvS 1) = (f9, suT, [bl]) := by
    generalize sendV 2 (bkG f1) (lvS 1) = z at hsd ⊢
    obtain ⟨z1, z2⟩ := z
    simp only at hsd
    subst hsd
    exact ⟨z1, rfl⟩
  have HSe : Hid (∀ W O1 b, RamB W (B + 1 + 1) b 2 (bkG f1) 382 O1 → Below B w W → Calls Tryd.prog 9 #[.agg (lvS 1).c, .pointer (some ⟨b, 0, none⟩)] W fun e w' => ∃ g cap dv O', e = .returned (.tuple #[.agg suT.c, .slice (some ⟨g, 0, none⟩) 1 cap]) ∧ RamB w' (B + 1 + 1) b 2 f9 (382 + 1200) O' ∧ Went (B + 1 + 1) O1 O' W w' ∧ FrsAt w' W.heap.size O' (.slice (some ⟨g, 0, none⟩) 1 cap) [(bl, dv)]) := hide (fun W O1 b hM hb => send_lv hM (HA0.out W hb) hG (by omega) (lvS_ok 1) hf9)
  clear hf9
  generalize wroteF f1 12 (numB 65537 4) = f2 at *
  generalize bkG f1 = f3 at *
  obtain ⟨s1, hs1⟩ : ∃ x : Nc, (⟨lvN 0 1 1 1, true, 0⟩ : Nc) = x := ⟨_, rfl⟩
  have hir : s1.c[4]? = some (.int .u32 1) := hs1 ▸ rfl
  rw [hs1] at HTk
  have HIR := hide hir
  obtain ⟨tx, htx⟩ : ∃ x, txtR bl = x := ⟨_, rfl⟩
  have HCB : Hid (∀ W, Below B w W → (convert 22 9 (.slice ba M bcap)).run Tryd.prog W = .ok (.string tx) W) := hide (fun W hb => by have h := bconv_in HBy.out hb bcap; rw [hM0, htx] at h; exact h)
  have HCD : Hid (∀ (W : World) Bf O dv, FrAt W Bf O bl dv → (convert 22 9 dv).run Tryd.prog W = .ok (.string tx) W) := hide (fun W Bf O dv h => htx ▸ conv_fr h)
  rw [hM0]
  clear hA hBy hBc hBm htk hsd hf00 hf1 hf0 hs1 hir hM0 htx hh hn1 hn0
  go_enter Tryd.func3, Tryd.ntmps3
  go_wp2_with (first | ((with_reducible refine bs_bk n c B ?_ _ _ _ _ _ _ _ ?_ ?_ ?_ ?_ ?_ ?_ ?_ ?_); exact hB; exact rfl; exact rfl; exact rfl; exact rfl; (first | exact rfl | exact congrArg (fun z => Value.agg #[.int .u32 24, .int .u32 z]) E7.out | exact congrArg (fun z => Value.agg #[.int .u32 24, .int .u32 z]) E7m.out | exact congrArg (fun z => Value.agg #[.int .u32 24, .int .u32 z]) E7w.out); exact rfl; exact rfl; intro W hq hb hz) | (go_at_call 5; (with_reducible refine (HBo.out _ hz.out hq).mono ?_); rintro e W1 ⟨b, O, r, rfl, hM, hbc⟩; replace hb := hb.trans (hbc.mono (by omega)); obtain ⟨NX, hNX0⟩ : ∃ n, W1.heap.size = n := ⟨_, rfl⟩; have hNX := hide hNX0; have hNB : B + 1 + 1 ≤ NX := hNX0 ▸ hM.base; have hnx : ¬ O NX := (fun e => absurd (hM.lt _ e) (by omega)); clear hNX0 hbc hq hz) | ((with_reducible refine al_Rz NX ?_ ?_); exact hNX.out; intro W hx hb' hz2; have hbc : Below W1.heap.size W1 W := (by rw [hNX.out]; exact hb'); replace hb := hb.trans (hb'.mono (by omega)); replace hM := hM.bl hbc; clear hb' hbc hz2) | ((with_reducible refine st_R NX _ r 8192 2 hx ?_ ?_ ?_ ?_); exact rfl; exact rfl; exact rfl; intro W hnew hoo; replace hM := hM.only hoo hnx; replace hb := hoo.bel _ _ (by omega) hb; clear hnew hoo hx hnx hNX) | (go_at_call 7; (with_reducible refine (HL0.out _).mono ?_); rintro e W ⟨rfl, hbc⟩; replace hb := hb.trans (hbc.mono (by have := hM.base; omega)); replace hM := hM.bl hbc; clear hbc) | (go_at_call 6; (with_reducible refine (HTk.out _ _ _ hM hb).mono ?_); rintro e W2 ⟨rfl, O2, hM2, hW2⟩; replace hb := hb.trans (hW2.below.mono (by omega)); replace hM := hM2; clear hM2 hW2; obtain ⟨NS, hNS0⟩ : ∃ n, W2.heap.size = n := ⟨_, rfl⟩; have hNS := hide hNS0; have hSB : B + 1 + 1 ≤ NS := hNS0 ▸ hM.base; have hns : ¬ O2 NS := (fun e => absurd (hM.lt _ e) (by omega)); clear hNS0) | ((with_reducible refine al_nc NS ?_ ?_); exact hNS.out; intro W hr hb' hz2; have hbc : Below W2.heap.size W2 W := (by rw [hNS.out]; exact hb'); replace hb := hb.trans (hb'.mono (by omega)); replace hM := hM.bl hbc; clear hb' hbc hz2) | ((with_reducible refine st_nc NS _ s1 hr ?_ ?_ ?_); exact rfl; exact rfl; intro W hnew hoo; replace hM := hM.only hoo hns; replace hb := hoo.bel _ _ (by omega) hb; (have fx := hnew.cell 4); rw [HIR.out] at fx; clear hoo hr hnew hNS) | (go_at_call 8; (with_reducible refine (HS1.out _ _ _ hM).mono ?_); rintro e W2 ⟨rfl, O2, hM2, hW2⟩; replace hb := hb.trans (hW2.below.mono (by omega)); replace hM := hM2; clear hM2 hW2; (try clear fx)) | (go_at_call 8; (with_reducible refine (HS2.out _ _ _ hM).mono ?_); rintro e W2 ⟨rfl, O2, hM2, hW2⟩; replace hb := hb.trans (hW2.below.mono (by omega)); replace hM := hM2; clear hM2 hW2; (try clear fx)) | (go_at_call 7; (with_reducible refine (HL1.out _).mono ?_); rintro e W ⟨rfl, hbc⟩; replace hb := hb.trans (hbc.mono (by have := hM.base; omega)); replace hM := hM.bl hbc; clear hbc) | (go_at_call 9; (with_reducible refine (HSe.out _ _ _ hM hb).mono ?_); rintro e W2 ⟨ga, ca, dv, O4, rfl, hM2, hW2, hY⟩; replace hb := hb.trans (hW2.below.mono (by omega)); replace hM := hM2; clear hM2 hW2; obtain ⟨NR, hNR0⟩ : ∃ n, W2.heap.size = n := ⟨_, rfl⟩; have hNR := hide hNR0; have hRB : B + 1 + 1 ≤ NR := hNR0 ▸ hM.base; have hnr : ¬ O4 NR := (fun e => absurd (hM.lt _ e) (by omega)); clear hNR0) | ((with_reducible refine al_nc NR ?_ ?_); exact hNR.out; intro W hr hb' hz2; have hbc : Below W2.heap.size W2 W := (by rw [hNR.out]; exact hb'); replace hb := hb.trans (hb'.mono (by omega)); replace hY := hY.bl hbc; clear hM hb' hbc hz2) | ((with_reducible refine st_nc NR _ suT hr ?_ ?_ ?_); exact rfl; exact rfl; intro W hnew hoo; replace hb := hoo.bel _ _ (by omega) hb; replace hY := hY.only hoo hr (by decide) (by decide); replace hr := hnew; clear hoo hnew))
  refine wp_region_held_drew (S := (fun V => RowAt V NR suT.c 43 ∧ Below B w V ∧ ∃ Bf, FrsAt V Bf O4 (.slice (some ⟨ga, 0, none⟩) 1 ca) [(bl, dv)])) (by kernel_rfl) ?_ (fun hHeld => ?_)
  · exact ⟨hr.dr, hb.drew, _, hY.keep (fun g cs t hg ht hn => ⟨rfl, hn⟩)⟩
  generalize World.drew _ = V at hHeld ⊢
  clear hr hY hb
  refine wpAnyH_take (i := 0) (oi := ?oi1) (v := .slice (some ⟨ga, 0, none⟩) 1 ca) ?hi1 (by kernel_rfl) (by kernel_rfl) (by kernel_rfl) ?hQ1 ?hy1 (by assumption) ?rest1
  case hi1 => (simp only [List.getElem?_toArray, List.getElem?_cons_zero]; rfl)
  case hQ1 => exact fun _ _ _ h => h
  case hy1 => exact Or.inl ⟨by rfl, by (intro w hSw; (try dsimp only at hSw); go_simp )⟩
  simp only [Act.put, List.setIfInBounds_toArray, List.set_cons_zero, List.set_cons_succ]
  refine wpAnyH_take (i := 1) (oi := ?oi2) (v := .int .i64 1) ?hi2 (by kernel_rfl) (by kernel_rfl) (by kernel_rfl) ?hQ2 ?hy2 (by assumption) ?rest2
  case hi2 => (simp only [List.getElem?_toArray, List.getElem?_cons_zero, List.getElem?_cons_succ]; rfl)
  case hQ2 => exact fun _ _ _ h => h
  case hy2 => exact Or.inl ⟨by rfl, by (intro w hSw; (try dsimp only at hSw); go_simp )⟩
  simp only [Act.put, List.setIfInBounds_toArray, List.set_cons_zero, List.set_cons_succ]
  refine wpAnyH_take (i := 2) (oi := ?oi3) (v := .bool true) ?hi3 (by kernel_rfl) (by kernel_rfl) (by kernel_rfl) ?hQ3 ?hy3 (by assumption) ?rest3
  case hi3 => (simp only [List.getElem?_toArray, List.getElem?_cons_zero, List.getElem?_cons_succ]; rfl)
  case hQ3 => exact fun _ _ _ h => h
  case hy3 => exact Or.inl ⟨by rfl, by (intro w hSw; (try dsimp only at hSw); go_simp )⟩
  simp only [Act.put, List.setIfInBounds_toArray, List.set_cons_zero, List.set_cons_succ]
  refine wpAnyH_take (i := 3) (oi := ?oi4) (v := .bool true) ?hi4 (by kernel_rfl) (by kernel_rfl) (by kernel_rfl) ?hQ4 ?hy4 (by assumption) ?rest4
  case hi4 => (simp only [List.getElem?_toArray, List.getElem?_cons_zero, List.getElem?_cons_succ]; rfl)
  case hQ4 => exact fun _ _ _ h => h
  case hy4 => exact Or.inl ⟨by rfl, by (intro w hSw; (try dsimp only at hSw); go_simp )⟩
  simp only [Act.put, List.setIfInBounds_toArray, List.set_cons_zero, List.set_cons_succ]
  refine wpAnyH_take (i := 4) (oi := ?oi5) (v := .slice (some ⟨ga, 0, none⟩) 1 ca) ?hi5 (by kernel_rfl) (by kernel_rfl) (by kernel_rfl) ?hQ5 ?hy5 (by assumption) ?rest5
  case hi5 => (simp only [List.getElem?_toArray, List.getElem?_cons_zero, List.getElem?_cons_succ]; rfl)
  case hQ5 => exact fun _ _ _ h => h
  case hy5 => exact Or.inl ⟨by rfl, by (intro w hSw; (try dsimp only at hSw); go_simp )⟩
  simp only [Act.put, List.setIfInBounds_toArray, List.set_cons_zero, List.set_cons_succ]
  refine wpAnyH_take (i := 5) (oi := ?oi6) (v := .pointer (some ⟨ga, 0, none⟩)) ?hi6 (by kernel_rfl) (by kernel_rfl) (by kernel_rfl) ?hQ6 ?hy6 (by assumption) ?rest6
  case hi6 => (simp only [List.getElem?_toArray, List.getElem?_cons_zero, List.getElem?_cons_succ]; rfl)
  case hQ6 => exact fun _ _ _ h => h
  case hy6 => exact Or.inl ⟨by rfl, by (intro w hSw; (try dsimp only at hSw); go_simp )⟩
  simp only [Act.put, List.setIfInBounds_toArray, List.set_cons_zero, List.set_cons_succ]
  refine wpAnyH_take (i := 6) (oi := ?oi7) (v := dv) ?hi7 (by kernel_rfl) (by kernel_rfl) (by kernel_rfl) ?hQ7 ?hy7 (by assumption) ?rest7
  case hi7 => (simp only [List.getElem?_toArray, List.getElem?_cons_zero, List.getElem?_cons_succ]; rfl)
  case hQ7 => exact fun _ _ _ h => h
  case hy7 => exact y_cellg ga 0 _ (fun V hV => (by obtain ⟨_, _, Bf, h⟩ := hV; exact frs_cell h 0 rfl)) _ Tryd.underlying22 rfl rfl (by rfl)
  simp only [Act.put, List.setIfInBounds_toArray, List.set_cons_zero, List.set_cons_succ]
  refine wpAnyH_take (i := 7) (oi := ?oi8) (v := .string tx) ?hi8 (by kernel_rfl) (by kernel_rfl) (by kernel_rfl) ?hQ8 ?hy8 (by assumption) ?rest8
  case hi8 => (simp only [List.getElem?_toArray, List.getElem?_cons_zero, List.getElem?_cons_succ]; rfl)
  case hQ8 => exact fun _ _ _ h => h
  case hy8 => exact y_conv dv (.string tx) (fun V hV => (by obtain ⟨_, _, Bf, h⟩ := hV; exact HCD.out _ _ _ _ (h.dat _ (List.mem_singleton.2 rfl)))) rfl (by rfl)
  simp only [Act.put, List.setIfInBounds_toArray, List.set_cons_zero, List.set_cons_succ]
  refine wpAnyH_take (i := 8) (oi := ?oi9) (v := .slice ba M bcap) ?hi9 (by kernel_rfl) (by kernel_rfl) (by kernel_rfl) ?hQ9 ?hy9 (by assumption) ?rest9
  case hi9 => (simp only [List.getElem?_toArray, List.getElem?_cons_zero, List.getElem?_cons_succ]; rfl)
  case hQ9 => exact fun _ _ _ h => h
  case hy9 => exact Or.inl ⟨by rfl, by (intro w hSw; (try dsimp only at hSw); go_simp )⟩
  simp only [Act.put, List.setIfInBounds_toArray, List.set_cons_zero, List.set_cons_succ]
  refine wpAnyH_take (i := 9) (oi := ?oi10) (v := .string tx) ?hi10 (by kernel_rfl) (by kernel_rfl) (by kernel_rfl) ?hQ10 ?hy10 (by assumption) ?rest10
  case hi10 => (simp only [List.getElem?_toArray, List.getElem?_cons_zero, List.getElem?_cons_succ]; rfl)
  case hQ10 => exact fun _ _ _ h => h
  case hy10 => exact y_conv (.slice ba M bcap) (.string tx) (fun V hV => HCB.out _ hV.2.1) rfl (by rfl)
  simp only [Act.put, List.setIfInBounds_toArray, List.set_cons_zero, List.set_cons_succ]
  refine wpAnyH_take (i := 10) (oi := ?oi11) (v := .bool true) ?hi11 (by kernel_rfl) (by kernel_rfl) (by kernel_rfl) ?hQ11 ?hy11 (by assumption) ?rest11
  case hi11 => (simp only [List.getElem?_toArray, List.getElem?_cons_zero, List.getElem?_cons_succ]; rfl)
  case hQ11 => exact fun _ _ _ h => h
  case hy11 => exact Or.inl ⟨by rfl, by (intro w hSw; (try dsimp only at hSw); go_simp )⟩
  simp only [Act.put, List.setIfInBounds_toArray, List.set_cons_zero, List.set_cons_succ]
  refine wpAnyH_take (i := 11) (oi := ?oi12) (v := .bool true) ?hi12 (by kernel_rfl) (by kernel_rfl) (by kernel_rfl) ?hQ12 ?hy12 (by assumption) ?rest12
  case hi12 => (simp only [List.getElem?_toArray, List.getElem?_cons_zero, List.getElem?_cons_succ]; rfl)
  case hQ12 => exact fun _ _ _ h => h
  case hy12 => exact Or.inl ⟨by rfl, by (intro w hSw; (try dsimp only at hSw); go_simp )⟩
  simp only [Act.put, List.setIfInBounds_toArray, List.set_cons_zero, List.set_cons_succ]
  refine wpAnyH_take (i := 12) (oi := ?oi13) (v := .bool true) ?hi13 (by kernel_rfl) (by kernel_rfl) (by kernel_rfl) ?hQ13 ?hy13 (by assumption) ?rest13
  case hi13 => (simp only [List.getElem?_toArray, List.getElem?_cons_zero, List.getElem?_cons_succ]; rfl)
  case hQ13 => exact fun _ _ _ h => h
  case hy13 => exact Or.inl ⟨by rfl, by (intro w hSw; (try dsimp only at hSw); go_simp )⟩
  simp only [Act.put, List.setIfInBounds_toArray, List.set_cons_zero, List.set_cons_succ]
  refine wpAnyH_take (i := 13) (oi := ?oi14) (v := .pointer (some ⟨NR, 0, none⟩)) ?hi14 (by kernel_rfl) (by kernel_rfl) (by kernel_rfl) ?hQ14 ?hy14 (by assumption) ?rest14
  case hi14 => (simp only [List.getElem?_toArray, List.getElem?_cons_zero, List.getElem?_cons_succ]; rfl)
  case hQ14 => exact fun _ _ _ h => h
  case hy14 => exact Or.inl ⟨by rfl, by (intro w hSw; (try dsimp only at hSw); go_simp )⟩
  simp only [Act.put, List.setIfInBounds_toArray, List.set_cons_zero, List.set_cons_succ]
  refine wpAnyH_take (i := 14) (oi := ?oi15) (v := .pointer (some ⟨NR, 4, none⟩)) ?hi15 (by kernel_rfl) (by kernel_rfl) (by kernel_rfl) ?hQ15 ?hy15 (by assumption) ?rest15
  case hi15 => (simp only [List.getElem?_toArray, List.getElem?_cons_zero, List.getElem?_cons_succ]; rfl)
  case hQ15 => exact fun _ _ _ h => h
  case hy15 => exact Or.inl ⟨by rfl, by (intro w hSw; (try dsimp only at hSw); go_simp )⟩
  simp only [Act.put, List.setIfInBounds_toArray, List.set_cons_zero, List.set_cons_succ]
  refine wpAnyH_take (i := 15) (oi := ?oi16) (v := .int .u32 1) ?hi16 (by kernel_rfl) (by kernel_rfl) (by kernel_rfl) ?hQ16 ?hy16 (by assumption) ?rest16
  case hi16 => (simp only [List.getElem?_toArray, List.getElem?_cons_zero, List.getElem?_cons_succ]; rfl)
  case hQ16 => exact fun _ _ _ h => h
  case hy16 => exact y_cellg NR 4 _ (fun V hV => (hV.1.cell 4).trans rfl) _ Tryd.underlying24 rfl rfl (by rfl)
  simp only [Act.put, List.setIfInBounds_toArray, List.set_cons_zero, List.set_cons_succ]
  refine wpAnyH_take (i := 16) (oi := ?oi17) (v := .bool true) ?hi17 (by kernel_rfl) (by kernel_rfl) (by kernel_rfl) ?hQ17 ?hy17 (by assumption) ?rest17
  case hi17 => (simp only [List.getElem?_toArray, List.getElem?_cons_zero, List.getElem?_cons_succ]; rfl)
  case hQ17 => exact fun _ _ _ h => h
  case hy17 => exact Or.inl ⟨by rfl, by (intro w hSw; (try dsimp only at hSw); go_simp )⟩
  simp only [Act.put, List.setIfInBounds_toArray, List.set_cons_zero, List.set_cons_succ]
  refine wpAnyH_take (i := 17) (oi := ?oi18) (v := .bool true) ?hi18 (by kernel_rfl) (by kernel_rfl) (by kernel_rfl) ?hQ18 ?hy18 (by assumption) ?rest18
  case hi18 => (simp only [List.getElem?_toArray, List.getElem?_cons_zero, List.getElem?_cons_succ]; rfl)
  case hQ18 => exact fun _ _ _ h => h
  case hy18 => exact Or.inl ⟨by rfl, by (intro w hSw; (try dsimp only at hSw); go_simp )⟩
  simp only [Act.put, List.setIfInBounds_toArray, List.set_cons_zero, List.set_cons_succ]
  refine wpAnyH_take (i := 18) (oi := ?oi19) (v := .bool true) ?hi19 (by kernel_rfl) (by kernel_rfl) (by kernel_rfl) ?hQ19 ?hy19 (by assumption) ?rest19
  case hi19 => (simp only [List.getElem?_toArray, List.getElem?_cons_zero, List.getElem?_cons_succ]; rfl)
  case hQ19 => exact fun _ _ _ h => h
  case hy19 => exact Or.inl ⟨by rfl, by (intro w hSw; (try dsimp only at hSw); go_simp )⟩
  simp only [Act.put, List.setIfInBounds_toArray, List.set_cons_zero, List.set_cons_succ]
  refine wpAnyH_ready (rs := [19]) (by kernel_rfl) (by simp) ?_
  refine AllReadyH.cons (o := ?oi20) ?hi20 (fun K hK => ?_) AllReadyH.nil
  case hi20 => (simp only [List.getElem?_toArray, List.getElem?_cons_zero, List.getElem?_cons_succ]; rfl)
  rw [if_pos (by rfl)]
  go_simp
  (with_reducible refine (HSu.out _ hHeld.2.1).mono ?_)
  rintro e V2 ⟨rfl, hbc⟩
  have hH2 := hide (show (fun V => RowAt V NR suT.c 43 ∧ Below B w V ∧ ∃ Bf, FrsAt V Bf O4 (.slice (some ⟨ga, 0, none⟩) 1 ca) [(bl, dv)]) V2 from ⟨hHeld.1.bl hbc, hHeld.2.1.trans (hbc.mono (by have := hHeld.1.lt; omega)), (by obtain ⟨Bf, h⟩ := hHeld.2.2; exact ⟨Bf, h.bl hbc⟩)⟩)
  clear hHeld hbc
  go_simp
  refine hK.out _ _ ?_ (fun hHeld => ?_)
  · exact hH2.out
  clear hK K
  clear hH2
  refine wpAnyH_take (i := 20) (oi := ?oi21) (v := .bool true) ?hi21 (by kernel_rfl) (by kernel_rfl) (by kernel_rfl) ?hQ21 ?hy21 (by assumption) ?rest21
  case hi21 => (simp only [List.getElem?_toArray, List.getElem?_cons_zero, List.getElem?_cons_succ]; rfl)
  case hQ21 => exact fun _ _ _ h => h
  case hy21 => exact Or.inl ⟨by rfl, by (intro w hSw; (try dsimp only at hSw); go_simp )⟩
  simp only [Act.put, List.setIfInBounds_toArray, List.set_cons_zero, List.set_cons_succ]
  refine wpAnyH_take (i := 21) (oi := ?oi22) (v := .bool true) ?hi22 (by kernel_rfl) (by kernel_rfl) (by kernel_rfl) ?hQ22 ?hy22 (by assumption) ?rest22
  case hi22 => (simp only [List.getElem?_toArray, List.getElem?_cons_zero, List.getElem?_cons_succ]; rfl)
  case hQ22 => exact fun _ _ _ h => h
  case hy22 => exact Or.inl ⟨by rfl, by (intro w hSw; (try dsimp only at hSw); go_simp )⟩
  simp only [Act.put, List.setIfInBounds_toArray, List.set_cons_zero, List.set_cons_succ]
  refine wpAnyH_done (by kernel_rfl) ?_ _
  have hb := hHeld.2.1
  clear hHeld
  go_wp2
  go_ret
  exact ⟨rfl, hb⟩
end Go.Proofs.YtbggkoahofnnjaaDoor
