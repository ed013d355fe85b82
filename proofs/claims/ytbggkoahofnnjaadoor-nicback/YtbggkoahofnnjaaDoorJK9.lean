/-
  The document's SetPage, Pages, Harvest and Twin.
-/
import Derived.Test.YtbggkoahofnnjaaDoorJK6
import Derived.Test.YtbggkoahofnnjaaDoorJK7
import Derived.Maps.AppendAt
import Derived.Deep.RegionLaw
import Derived.Deep.WholeRow
import Derived.Test.YtbggkoahofnnjaaDoorJK5
import Derived.Deep.CutRange
namespace Go.Proofs.YtbggkoahofnnjaaDoor
open Go.RowKit
set_option linter.unusedVariables false

theorem size_R : (Tryd.prog.info? 29).map (·.size) = some 3 := by kernel_rfl
theorem size_sb : (Tryd.prog.info? 22).map (·.size) = some 1 := by kernel_rfl
theorem size_sd : (Tryd.prog.info? 27).map (·.size) = some 1 := by kernel_rfl
theorem size_int : (Tryd.prog.info? 3).map (·.size) = some 1 := by kernel_rfl
def zR : Array Value := #[.slice none 0 0, .slice none 0 0, .int .i64 0]
theorem zero_R (w : World) : (zeroValue 29).run Tryd.prog w = .ok (.agg zR) w :=
  (zero_of_info (P := Tryd.prog) (t := 29) (v := .agg zR) (n := 3) (by kernel_rfl)).1 w
theorem v_one (r : RP) (N n : Nat) : (r.v N n).all (·.oneCell') = true := by simp [RP.v, Value.oneCell']
variable {ops : Array Oper} {rest : List Oper} {dst : Option Tmp} {ty : TypeId} {pos : String} {after : Array Edge} {a : Act} {w : World} {Q : Exit → Act → World → Prop} {x y : Operand} {S : World → Prop} {K : Act → World → Prop}
theorem bx_R (M : Nat) (r : RP) (N n : Nat) (hM : w.heap.size = M) (hx : a.eval x = .agg (r.v N n))
    (k : ∀ W, RowAt W M (r.v N n) 29 → Below M w W → Hid (W.heap.size = M + 1) → wpList Tryd.prog ops Q rest (a.put dst (.pointer (some ⟨M, 0, none⟩))) W) :
    wpList Tryd.prog ops Q (⟨dst, .box 29 x, ty, pos, after, none⟩ :: rest) a w := op_box M hM (r.v N n) hx k
theorem al_R (M : Nat) (hM : w.heap.size = M)
    (k : ∀ W, RowAt W M zR 29 → Below M w W → Hid (W.heap.size = M + 1) → wpList Tryd.prog ops Q rest (a.put dst (.pointer (some ⟨M, 0, none⟩))) W) :
    wpList Tryd.prog ops Q (⟨dst, .alloc 29, ty, pos, after, none⟩ :: rest) a w := op_alloc M hM zR zero_R k
theorem ld_R (b : Nat) (r : RP) (N n : Nat) (hr : RowAt w b (r.v N n) 29) (hx : a.eval x = .pointer (some ⟨b, 0, none⟩))
    (k : wpList Tryd.prog ops Q rest (a.put dst (.agg (r.v N n))) w) : wpList Tryd.prog ops Q (⟨dst, .load 29 x, ty, pos, after, none⟩ :: rest) a w :=
  op_load b hx (r.v N n) _ hr _ Tryd.underlying29 rfl size_R k
theorem st_R (b : Nat) (old : Array Value) (r : RP) (N n : Nat) (hr : RowAt w b old 29) (ho : old.size = 3) (hx : a.eval x = .pointer (some ⟨b, 0, none⟩)) (hy : a.eval y = .agg (r.v N n))
    (k : ∀ W, RowAt W b (r.v N n) 29 → Only b w W → wpList Tryd.prog ops Q rest (a.put dst undef) W) : wpList Tryd.prog ops Q (⟨dst, .store 29 x y, ty, pos, after, none⟩ :: rest) a w :=
  op_store b hx (r.v N n) hy old _ hr size_R ho (v_one r N n) k
theorem ld_B (b : Nat) (r : RP) (N n : Nat) (hr : RowAt w b (r.v N n) 29) (hx : a.eval x = .pointer (some ⟨b, 0, none⟩))
    (k : wpList Tryd.prog ops Q rest (a.put dst (.slice (some ⟨r.gB, 0, none⟩) N r.cB)) w) : wpList Tryd.prog ops Q (⟨dst, .load 22 x, ty, pos, after, none⟩ :: rest) a w :=
  op_load_cell b 0 hx _ _ _ hr rfl _ Tryd.underlying22 rfl k
theorem ld_D (b : Nat) (r : RP) (N n : Nat) (hr : RowAt w b (r.v N n) 29) (hx : a.eval x = .pointer (some ⟨b, 1, none⟩))
    (k : wpList Tryd.prog ops Q rest (a.put dst (.slice (some ⟨r.gD, 0, none⟩) n r.cD)) w) : wpList Tryd.prog ops Q (⟨dst, .load 27 x, ty, pos, after, none⟩ :: rest) a w :=
  op_load_cell b 1 hx _ _ _ hr rfl _ Tryd.underlying27 rfl k
theorem ld_W (b : Nat) (r : RP) (N n : Nat) (hr : RowAt w b (r.v N n) 29) (hx : a.eval x = .pointer (some ⟨b, 2, none⟩))
    (k : wpList Tryd.prog ops Q rest (a.put dst (.int .i64 r.wr)) w) : wpList Tryd.prog ops Q (⟨dst, .load 3 x, ty, pos, after, none⟩ :: rest) a w :=
  op_load_cell b 2 hx _ _ _ hr rfl _ Tryd.underlying3 rfl k
theorem st_B (b : Nat) (r : RP) (N n g c : Nat) (hr : RowAt w b (r.v N n) 29) (hx : a.eval x = .pointer (some ⟨b, 0, none⟩)) (hy : a.eval y = .slice (some ⟨g, 0, none⟩) N c)
    (k : ∀ W, RowAt W b (({ r with gB := g, cB := c } : RP).v N n) 29 → Only b w W → wpList Tryd.prog ops Q rest (a.put dst undef) W) : wpList Tryd.prog ops Q (⟨dst, .store 22 x y, ty, pos, after, none⟩ :: rest) a w :=
  op_store_cell b 0 hx _ hy _ _ _ hr size_sb (by simp [RP.v]) rfl rfl k
theorem st_D (b : Nat) (r : RP) (N n g c : Nat) (hr : RowAt w b (r.v N n) 29) (hx : a.eval x = .pointer (some ⟨b, 1, none⟩)) (hy : a.eval y = .slice (some ⟨g, 0, none⟩) n c)
    (k : ∀ W, RowAt W b (({ r with gD := g, cD := c } : RP).v N n) 29 → Only b w W → wpList Tryd.prog ops Q rest (a.put dst undef) W) : wpList Tryd.prog ops Q (⟨dst, .store 27 x y, ty, pos, after, none⟩ :: rest) a w :=
  op_store_cell b 1 hx _ hy _ _ _ hr size_sd (by simp [RP.v]) rfl rfl k
theorem st_W (b : Nat) (r : RP) (N n : Nat) (z : Int) (hr : RowAt w b (r.v N n) 29) (hx : a.eval x = .pointer (some ⟨b, 2, none⟩)) (hy : a.eval y = .int .i64 z)
    (k : ∀ W, RowAt W b (({ r with wr := z } : RP).v N n) 29 → Only b w W → wpList Tryd.prog ops Q rest (a.put dst undef) W) : wpList Tryd.prog ops Q (⟨dst, .store 3 x y, ty, pos, after, none⟩ :: rest) a w :=
  op_store_cell b 2 hx _ hy _ _ _ hr size_int (by simp [RP.v]) rfl rfl k

/-- A row of one's own, as it lies. -/
theorem holds_of_own {W : World} {B n : Nat} {e : TypeId} {v : Value} {xs : List Value} {f : Nat → Value} (h : W.ownsRow B e 1 v n xs) (hn : 0 < n) (hf : ∀ j, j < n → xs[j]? = some (f j)) :
    ∃ g c, v = .slice (some ⟨g, 0, none⟩) n c ∧ HoldsAt W g n e f ∧ B ≤ g ∧ n ≤ c ∧ c ≤ maxLen := by
  obtain ⟨h1, ⟨_, h0⟩ | ⟨g, cap, cur, rfl, e2, e3, e4, e5, e6, e7⟩⟩ := h
  · omega
  · refine ⟨g, cap, rfl, ⟨cur, e3, by omega, fun j hj => ?_⟩, e2, e4, e5⟩
    rw [← hf j hj, ← e7, List.getElem?_take_of_lt (by omega), Array.getElem?_toList]
/-- What append to a row of one's own does. -/
def AppOk (t : TypeId) (X : World) (v x v' : Value) (G : World) : Prop := (Builtin.append_ #[t, t] t #[v, x]).run Tryd.prog X = .ok v' G
theorem infoBool : (Tryd.prog.info? 4).map (fun i => (i.zero, i.size, i.bytes)) = some (some (.bool false), 1, 1) := by kernel_rfl
theorem grown_below {X G : World} {row : Option Nat} (h : X.grownBy G row) {B : Nat} (hB : B ≤ X.heap.size) (hr : ∀ k, row = some k → B ≤ k) : Below B X G :=
  (Below.refl B X).grown h hB hr
end Go.Proofs.YtbggkoahofnnjaaDoor
namespace Go.Proofs.YtbggkoahofnnjaaDoor
open Go.RowKit
set_option linter.unusedVariables false
attribute [local go_sem ↓] Go.wp_at_zero Go.wp_at_succ

set_option maxHeartbeats 1000000 in
theorem rnew_ok (N n : Nat) (h0 : 0 < n) (h1 : n ≤ 16384) (hN : N = 4096 * n) (w : World) :
    Calls Tryd.prog 11 #[.int .i64 n] w fun e w' => (∃ r : RP, e = .returned (.tuple #[.agg (r.v N n), .int .i64 0]) ∧ RefAt w' N n (fun _ => 0) r ∧ ∀ x, r.owns x → w.heap.size ≤ x) ∧ Below w.heap.size w w' := by
  have hN9 : N ≤ 67108864 := by omega
  have m1 := run_make_row' (P := Tryd.prog) 22 5 (.int .u8 0) 1 Tryd.underlying22 (by kernel_rfl) rfl .i64 .i64 N (by omega) (by omega)
  have m2 := run_make_row' (P := Tryd.prog) 27 4 (.bool false) 1 Tryd.underlying27 (by kernel_rfl) rfl .i64 .i64 n (by omega) (by omega)
  have hmul : IntKind.i64.wrap (4096 * (n : Int)) = (N : Int) := by rw [IntKind.wrap_i64]; omega
  have hmul2 : (4096 : Int) * (n : Int) = (N : Int) := by omega
  have HN := hide hN
  clear hN
  go_enter Tryd.func11, Tryd.ntmps11
  go_wp2
  go_region
  all_goals go_wp2
  all_goals
    refine bodyPost_ret (results_cell_tmp_row Tryd.results11 _ _ w.heap.size _ _ _ _ rfl (((RowAt.new w _ _ _ rfl).al _).al _).dr Tryd.underlying29 rfl size_R) rfl ?_
    have hb := (below_three w (.cells #[.slice (some ⟨w.heap.size + 1, 0, none⟩) N N, .slice (some ⟨w.heap.size + 1 + 1, 0, none⟩) n n, .int .i64 0] 29) (.cells (madeCells #[.int .u8 0] N) 5) (.cells (madeCells #[.bool false] n) 4)).drew
    have hN4 := HN.out
    first
      | exact ⟨⟨⟨w.heap.size + 1, N, w.heap.size + 1 + 1, n, 0⟩, rfl, { bytes := (HoldsAt.made (RowAt.new _ _ _ _ (by simp))).al _ |>.dr, marks := ⟨fun _ => false, (HoldsAt.made (RowAt.new _ _ _ _ (by simp))).dr⟩, small := fun _ => (by decide), capB := ⟨Nat.le_refl _, (by show N ≤ maxLen; unfold maxLen; omega)⟩, capD := ⟨Nat.le_refl _, (by show n ≤ maxLen; unfold maxLen; omega)⟩, few := ⟨h0, h1, hN4⟩ }, fun x hx => by rcases hx with rfl | rfl <;> simp <;> omega⟩, (below_three w _ _ _).drew⟩
      | exact ⟨⟨⟨w.heap.size + 1 + 1, N, w.heap.size + 1, n, 0⟩, rfl, { bytes := (HoldsAt.made (RowAt.new _ _ _ _ (by simp))).dr, marks := ⟨fun _ => false, (HoldsAt.made (RowAt.new _ _ _ _ (by simp))).al _ |>.dr⟩, small := fun _ => (by decide), capB := ⟨Nat.le_refl _, (by show N ≤ maxLen; unfold maxLen; omega)⟩, capD := ⟨Nat.le_refl _, (by show n ≤ maxLen; unfold maxLen; omega)⟩, few := ⟨h0, h1, hN4⟩ }, fun x hx => by rcases hx with rfl | rfl <;> simp <;> omega⟩, (below_three w _ _ _).drew⟩

/-- Marks as values. -/
def boolV (l : List Bool) : List Value := l.map fun b => .bool b
theorem boolV_len (l : List Bool) : (boolV l).length = l.length := by simp [boolV]
theorem boolV_at {l : List Bool} {j : Nat} (h : j < l.length) : (boolV l)[j]? = some (.bool (l[j]?.getD false)) := by
  unfold boolV; rw [List.getElem?_map, List.getElem?_eq_getElem h]; rfl
theorem boolV_set (l : List Bool) (j : Nat) (b : Bool) : (boolV l).set j (.bool b) = boolV (l.set j b) := by simp [boolV, List.map_set]
theorem boolV_one (l : List Bool) : ∀ u ∈ boolV l, u.oneCell' = true := fun u hu => by
  simp only [boolV, List.mem_map] at hu
  obtain ⟨x, _, rfl⟩ := hu
  rfl
set_option maxHeartbeats 2000000 in
theorem mark_any {w : World} {N n : Nat} {f : Nat → Nat} {r : RP} (h : RefAt w N n f r) (at_ L : Nat) (h0 : 0 < L) (hin : at_ + L ≤ N) :
    Calls Tryd.prog 26 #[.agg (r.v N n), .int .i64 at_, .int .i64 L] w fun e w' => (∃ g c : Nat, e = .returned (.agg (({ r with gD := g, cD := c } : RP).v N n)) ∧ RefAt w' N n f { r with gD := g, cD := c } ∧ w.heap.size ≤ g) ∧ Below w.heap.size w w' := by
  obtain ⟨d, hd⟩ := h.marks
  have hn0 := h.few.1
  have hn9 := h.few.2.1
  have hN4 := h.few.2.2
  have hN9 : N ≤ 67108864 := by omega
  have HRef := hide h
  obtain ⟨i0, hi, hz, hs1, hby⟩ := info_parts infoBool
  have HL : Hid (((List.range n).map d).length = n) := hide (by simp)
  have HS : Hid (∀ W, Below w.heap.size w W → ∀ (j : Nat) (u : Value), (boolV ((List.range n).map d))[j]? = some u → W.cell? ((⟨r.gD, 0, none⟩ : Addr).add j) = some u) := by
    refine hide (fun W hb j u hj => ?_)
    have hjn : j < n := by have := (List.getElem?_eq_some_iff.1 hj).1; simpa [boolV] using this
    rw [Addr.add_lit, Nat.zero_add, (hd.bl hb).cell hjn, ← hj, boolV_at (by simpa using hjn), List.getElem?_map, List.getElem?_range hjn]
    rfl
  have HI : Hid (((at_ + L - 1) / 4096 < n) ∧ at_ / 4096 ≤ (at_ + L - 1) / 4096) := hide ⟨by omega, by omega⟩
  have t0 : decide ((0 : Int) < (L : Int)) = true := decide_eq_true (by omega)
  have t0' : decide (0 < L) = true := decide_eq_true h0
  have b1 : L ≤ 67108864 := by omega
  have b2 : at_ ≤ 67108864 := by omega
  clear h hd hN4 hin
  generalize (List.range n).map d = l0 at HL HS
  go_enter Tryd.func26, Tryd.ntmps26
  go_wp2_with (first | ((with_reducible refine bx_R w.heap.size r N n ?_ ?_ ?_); exact rfl; exact rfl; intro W hr hb hz0) | ((with_reducible refine al_R (w.heap.size + 1) ?_ ?_); exact hz0.out; intro W hq hb' hz'; replace hr := hr.bl (hz0.out ▸ hb'); replace hb := hb.trans (hb'.mono (by omega)); replace hz0 := hz') | ((with_reducible refine ld_D w.heap.size _ N n hr ?_ ?_); exact rfl) | (at_builtin; refine wpList_append_own _ rfl _ _ 27 rfl (w.heap.size + 1 + 1) 4 i0 (.bool false) 1 1 Tryd.underlying27 hi hz hs1 hby rfl (by decide) _ 0 [] rfl (World.ownsRow_nil _ _ _ _) ⟨r.gD, 0, none⟩ n r.cD (boolV l0) rfl (by rw [boolV_len, HL.out]; omega) (HS.out _ hb) (boolV_one l0) (by unfold maxLen; omega) (by omega) (Nat.le_of_eq hz0.out.symm) ?_; intro v' W hown hgrow hnil; clear hnil; simp only [Nat.zero_add, List.nil_append] at hown; obtain ⟨g, c, rfl, hbg, hgl⟩ := own_shape hown (by omega); have hbG := grown_below hgrow (Nat.le_refl _) (fun k e => by cases e); replace hr := hr.bl hbG; replace hq := hq.bl hbG; replace hb := hb.trans (hbG.mono hb.size); clear hgrow hbG))
  have HO := hide hown
  clear hown hi hz hs1 hby
  go_loopw [8] (fun iv wr => ∃ (i : Nat) (l : List Bool), i ≤ n ∧ iv = .int .i64 (i : Nat) ∧ l.length = n ∧ wr.ownsRow (w.heap.size + 1 + 1) 4 1 (.slice (some ⟨g, 0, none⟩) n c) n (boolV l) ∧ RowAt wr w.heap.size (r.v N n) 29 ∧ RowAt wr (w.heap.size + 1) zR 29 ∧ Below w.heap.size w wr) (fun iv _ => n - (intOf iv).toNat)
  case atStart => exact ⟨at_ / 4096, l0, by have := HI.out; omega, by go_num, HL.out, HO.out, hr, hq, hb⟩
  case round =>
    obtain ⟨i, l, hi, rfl, hl, hO, hr, hq, hb⟩ := hrel
    have HR' := hide hr
    have HQ' := hide hq
    have HB' := hide hb
    have HO' := hide hO
    have HLl := hide hl
    by_cases hlt : i ≤ (at_ + L - 1) / 4096
    · have t2 : decide ((i : Int) ≤ ((at_ : Int) + (L : Int) - 1) / 4096) = true := decide_eq_true (by omega)
      have hin := HI.out.1
      have i9 : (i : Int) < (n : Int) := by omega
      have i9' : i < n := by omega
      have hc := hO.cellAt i (by omega)
      have hf := hO.frozenAt i
      have hst := hO.stored i (.bool true)
      rw [boolV_at (by omega)] at hc
      rw [boolV_set] at hst
      have HST := hide hst
      clear hO hr hq hb hst hl HO HI hin
      go_wp2
      go_roundw
      case rel => exact ⟨i + 1, l.set i true, by omega, by go_num, by rw [List.length_set]; exact HLl.out, HST.out.1, HR'.out.far (by omega) _ _, HQ'.out.far (by omega) _ _, HB'.out.setCell (p := ⟨g, i, none⟩) (by show w.heap.size ≤ g; omega) _⟩
      case measure => simp [intOf]; omega
    · have t2 : decide ((i : Int) ≤ ((at_ : Int) + (L : Int) - 1) / 4096) = false := decide_eq_false (by omega)
      clear hO hl HO HI
      go_wp2_with (first | ((with_reducible refine st_D w.heap.size r N n g c hr ?_ ?_ ?_); exact rfl; exact rfl; intro W hnew ho; replace hq := hq.only ho (by omega); replace hr := hnew; replace hb := ho.bel _ _ (by omega) hb; have HO2 := hide (own_far HO'.out (fun x hx => ho.row x (by omega)))) | ((with_reducible refine ld_R w.heap.size _ N n hr ?_ ?_); exact rfl) | ((with_reducible refine st_R (w.heap.size + 1) _ { r with gD := g, cD := c } N n hq ?_ ?_ ?_ ?_); exact rfl; exact rfl; exact rfl; intro W hnew ho; replace hr := hr.only ho (by omega); replace hq := hnew; replace hb := ho.bel _ _ (by omega) hb; have HO3 := hide (own_far HO2.out (fun x hx => ho.row x (by omega)))))
      refine bodyPost_ret (results_cell_row Tryd.results26 _ _ (w.heap.size + 1) _ _ _ _ rfl hq Tryd.underlying29 rfl size_R) rfl ?_
      obtain ⟨g', c', e, hH, h3, h4, h5⟩ := holds_of_own HO3.out hn0 (f := fun j => .bool (l[j]?.getD false)) (fun j hj => boolV_at (by have := HLl.out; omega))
      cases e
      have hR := HRef.out.bl hb
      exact ⟨⟨g, c, rfl, { bytes := hR.bytes, marks := ⟨_, hH⟩, small := hR.small, capB := hR.capB, capD := ⟨h4, h5⟩, few := hR.few }, by omega⟩, hb⟩
end Go.Proofs.YtbggkoahofnnjaaDoor
namespace Go.Proofs.YtbggkoahofnnjaaDoor
open Go.RowKit
set_option linter.unusedVariables false
attribute [local go_sem ↓] Go.wp_at_zero Go.wp_at_succ

/-- Bytes with others written over them from a place on. -/
def wroteF (f : Nat → Nat) (a : Nat) (l : List Nat) : Nat → Nat := fun x => if a ≤ x ∧ x < a + l.length then (l[x - a]?).getD 0 else f x
theorem wroteF_lt {f : Nat → Nat} (hf : ∀ x, f x < 256) (a : Nat) {l : List Nat} (hl : ∀ y, y ∈ l → y < 256) (x : Nat) : wroteF f a l x < 256 := by
  unfold wroteF
  split
  · cases hx : l[x - a]? with
    | none => decide
    | some y => exact hl y (List.mem_of_getElem? hx)
  · exact hf x
theorem numB_small (v k : Nat) : ∀ y, y ∈ numB v k → y < 256 := by
  intro y hy
  obtain ⟨j, _, rfl⟩ := List.mem_map.1 hy
  exact Nat.mod_lt _ (by decide)
theorem numB_len (v k : Nat) : (numB v k).length = k := by simp [numB]
def bytesL (f : Nat → Nat) (N : Nat) : List UInt8 := (List.range N).map fun j => UInt8.ofNat (f j)
theorem bytesL_len (f : Nat → Nat) (N : Nat) : (bytesL f N).length = N := by simp [bytesL]
theorem bytesL_at {f : Nat → Nat} {N j : Nat} (h : j < N) : (bytesL f N)[j]? = some (UInt8.ofNat (f j)) := by
  unfold bytesL; rw [List.getElem?_map, List.getElem?_range h]; rfl
theorem withTo_at (l : List UInt8) (a v : Nat) : ∀ k j, a + k ≤ l.length → (withTo l a v k)[j]? = if a ≤ j ∧ j < a + k then some (UInt8.ofNat (v / 256 ^ (j - a) % 256)) else l[j]?
  | 0, j, _ => by rw [if_neg (by omega)]; rfl
  | k + 1, j, h => by
    have ih := withTo_at l a v k j (by omega)
    have hl := withTo_length l a v k
    rw [withTo, List.getElem?_set]
    by_cases hj : a + k = j
    · subst hj
      rw [if_pos rfl, if_pos (by omega), if_pos (by omega), show a + k - a = k by omega]
    · rw [if_neg hj, ih]
      by_cases h2 : a ≤ j ∧ j < a + k
      · rw [if_pos h2, if_pos (by omega)]
      · rw [if_neg h2, if_neg (by omega)]
theorem numB_at {v k j : Nat} (h : j < k) : ((numB v k)[j]?).getD 0 = v / 256 ^ j % 256 := by
  unfold numB; rw [List.getElem?_map, List.getElem?_range h]; rfl
theorem with_cells {f : Nat → Nat} (hf : ∀ x, f x < 256) {N a v k j : Nat} (hk : a + k ≤ N) (hj : j < N) : (cellsB (withTo (bytesL f N) a v k))[j]? = some (.int .u8 (wroteF f a (numB v k) j : Nat)) := by
  unfold cellsB wroteF
  rw [List.getElem?_map, withTo_at _ _ _ _ _ (by rw [bytesL_len]; exact hk), numB_len]
  by_cases h : a ≤ j ∧ j < a + k
  · rw [if_pos h, if_pos h, numB_at (by omega)]
    show some (Value.int .u8 (((UInt8.ofNat (v / 256 ^ (j - a) % 256)).toNat : Nat) : Int)) = _
    rw [UInt8.toNat_ofNat', Nat.mod_mod_of_dvd _ (by decide)]
  · rw [if_neg h, if_neg h, bytesL_at hj]
    show some (Value.int .u8 (((UInt8.ofNat (f j)).toNat : Nat) : Int)) = _
    rw [UInt8.toNat_ofNat', Nat.mod_eq_of_lt (hf j)]
theorem bytes_src {w : World} {g N : Nat} {f : Nat → Nat} (hf : ∀ x, f x < 256) (h : HoldsAt w g N 5 (fun x => .int .u8 (f x : Nat))) (j : Nat) (u : Value) (hu : (cellsB (bytesL f N))[j]? = some u) : w.cell? ⟨g, 0 + j, none⟩ = some u := by
  have hj : j < N := by
    have := (List.getElem?_eq_some_iff.1 hu).1
    rwa [cellsB_length, bytesL_len] at this
  rw [Nat.zero_add, h.cell hj, ← hu]
  unfold cellsB
  rw [List.getElem?_map, bytesL_at hj]
  show some (Value.int .u8 ((f j : Nat) : Int)) = some (Value.int .u8 (((UInt8.ofNat (f j)).toNat : Nat) : Int))
  rw [UInt8.toNat_ofNat', Nat.mod_eq_of_lt (hf j)]
theorem rwith_ok {w : World} {N n : Nat} {f : Nat → Nat} {r : RP} (h : RefAt w N n f r) (a k : Nat) (hk : k = 1 ∨ k = 2 ∨ k = 4) (hal : a % k = 0) (hin : a + k ≤ N) (v : Nat) (hv : v < 4294967296) :
    Calls Tryd.prog 25 #[.slice (some ⟨r.gB, 0, none⟩) N r.cB, .int .i64 a, .int .i64 k, .int .u32 v] w fun e w' => ∃ g c, e = .returned (.tuple #[.slice (some ⟨g, 0, none⟩) N c, .int .i64 0]) ∧
      HoldsAt w' g N 5 (fun x => .int .u8 (wroteF f a (numB v k) x : Nat)) ∧ w.heap.size ≤ g ∧ N ≤ c ∧ c ≤ maxLen ∧ Below w.heap.size w w' := by
  have hN9 : N ≤ 67108864 := by have := h.few; omega
  have hN0 : 0 < N := by omega
  have hw := refwith_ok r.gB 0 r.cB (bytesL f N) a k hk hal (by rw [bytesL_len]; exact hin) (by rw [bytesL_len]; omega) v hv w (fun j u hu => bytes_src h.small h.bytes j u hu) h.bytes.lt
  rw [bytesL_len] at hw
  refine hw.mono ?_
  rintro e w' ⟨g, c, rfl, hO, hB⟩
  obtain ⟨g', c', e', hH, h3, h4, h5⟩ := holds_of_own hO hN0 (fun j hj => with_cells h.small hin hj)
  cases e'
  exact ⟨g, c, rfl, hH, h3, h4, h5, hB⟩
set_option maxHeartbeats 1000000 in
theorem rstore_ok {w : World} {N n : Nat} {f : Nat → Nat} {r : RP} (h : RefAt w N n f r) (a k : Nat) (ha : a < 4294967296) (hk : k = 1 ∨ k = 2 ∨ k = 4) (hal : a % k = 0) (hin : a + k ≤ N) (v : Nat) (hv : v < 4294967296) :
    Calls Tryd.prog 12 #[.agg (r.v N n), .int .u32 a, .int .i64 k, .int .u32 v] w fun e w' => (∃ r' : RP, e = .returned (.tuple #[.agg (r'.v N n), .int .i64 0]) ∧ RefAt w' N n (wroteF f a (numB v k)) r' ∧ ∀ x, r'.owns x → w.heap.size ≤ x) ∧ Below w.heap.size w w' := by
  have hN9 : N ≤ 67108864 := by have := h.few; omega
  have HRef := hide h
  have HW : Hid (∀ W, Below w.heap.size w W → Calls Tryd.prog 25 #[.slice (some ⟨r.gB, 0, none⟩) N r.cB, .int .i64 a, .int .i64 k, .int .u32 v] W fun e w' => ∃ g c, e = .returned (.tuple #[.slice (some ⟨g, 0, none⟩) N c, .int .i64 0]) ∧
      HoldsAt w' g N 5 (fun x => .int .u8 (wroteF f a (numB v k) x : Nat)) ∧ W.heap.size ≤ g ∧ N ≤ c ∧ c ≤ maxLen ∧ Below W.heap.size W w') := hide (fun W hb => rwith_ok (h.bl hb) a k hk hal hin v hv)
  have HM : Hid (∀ W r' f', RefAt W N n f' r' → Calls Tryd.prog 26 #[.agg (r'.v N n), .int .i64 a, .int .i64 k] W fun e w' => (∃ g c : Nat, e = .returned (.agg (({ r' with gD := g, cD := c } : RP).v N n)) ∧ RefAt w' N n f' { r' with gD := g, cD := c } ∧ W.heap.size ≤ g) ∧ Below W.heap.size W w') := hide (fun W r' f' hr => mark_any hr a k (by omega) hin)
  have HF : Hid (∀ x, wroteF f a (numB v k) x < 256) := hide (wroteF_lt h.small a (numB_small v k))
  clear h hk hal hin
  generalize wroteF f a (numB v k) = f' at *
  go_enter Tryd.func12, Tryd.ntmps12
  go_wp2_with (first | ((with_reducible refine bx_R w.heap.size r N n ?_ ?_ ?_); exact rfl; exact rfl; intro W hr hb hz0) | ((with_reducible refine al_R (w.heap.size + 1) ?_ ?_); exact hz0.out; intro W hq hb' hz'; replace hr := hr.bl (hz0.out ▸ hb'); replace hb := hb.trans (hb'.mono (by omega)); replace hz0 := hz') | ((with_reducible refine ld_B w.heap.size _ N n hr ?_ ?_); exact rfl) | (go_at_call 25; refine (HW.out _ hb).mono ?_; rintro e W ⟨g, c, rfl, hx1, hx2, hx3, hx4, hx5⟩; replace hr := hr.bl hx5; replace hq := hq.bl hx5; have hgw : w.heap.size ≤ g := Nat.le_trans hb.size hx2; replace hb := below_bl rfl hb hx5; have hgl := hide (Nat.lt_of_lt_of_le (Nat.lt_succ_self _) (hz0.out ▸ hx2 : w.heap.size + 1 + 1 ≤ g)); have H1 := hide hx1; have H3 := hide hx3; have H4 := hide hx4; clear hx1 hx2 hx3 hx4 hx5) | ((with_reducible refine st_B w.heap.size r N n g c hr ?_ ?_ ?_); exact rfl; exact rfl; intro W hnew ho; replace hq := hq.only ho (by omega); replace hr := hnew; replace hb := ho.bel _ _ (by omega) hb; replace H1 := hide (H1.out.of_heap (ho.row g (by have := hgl.out; omega)))) | ((with_reducible refine ld_W w.heap.size _ N n hr ?_ ?_); exact rfl) | ((with_reducible refine st_W w.heap.size _ N n (wrap64 (r.wr + 1)) hr ?_ ?_ ?_); exact rfl; exact rfl; intro W hnew ho; replace hq := hq.only ho (by omega); replace hr := hnew; replace hb := ho.bel _ _ (by omega) hb; replace H1 := hide (H1.out.of_heap (ho.row g (by have := hgl.out; omega)))) | ((with_reducible refine ld_R w.heap.size _ N n hr ?_ ?_); exact rfl) | (go_at_call 26; refine (HM.out _ ⟨g, c, r.gD, r.cD, wrap64 (r.wr + 1)⟩ f' ⟨H1.out, (HRef.out.bl hb).marks, HF.out, ⟨H3.out, H4.out⟩, HRef.out.capD, HRef.out.few⟩).mono ?_; rintro e W ⟨⟨g2, c2, rfl, hRf, hg2⟩, hx5⟩; have HG2 : Hid (w.heap.size + 1 < g2) := hide (Nat.lt_of_lt_of_le hq.lt hg2); replace hr := hr.bl hx5; replace hq := hq.bl hx5; have hg3 : w.heap.size ≤ g2 := Nat.le_trans hb.size hg2; replace hb := below_bl rfl hb hx5; have HRf := hide hRf; clear hRf hg2 hx5) | ((with_reducible refine st_R (w.heap.size + 1) _ ⟨g, c, g2, c2, wrap64 (r.wr + 1)⟩ N n hq ?_ ?_ ?_ ?_); exact rfl; exact rfl; exact rfl; intro W hnew ho; replace hr := hr.only ho (by omega); have hqn := hide hq.lt; replace hq := hnew; replace hb := ho.bel _ _ (by omega) hb; replace HRf := hide (HRf.out.same (fun x hx => ho.row x (by (have e1 := hgl.out; have e2 := HG2.out; rcases hx with rfl | rfl <;> omega))))))
  refine bodyPost_ret (results_cell_tmp_row Tryd.results12 _ _ (w.heap.size + 1) _ _ _ _ rfl hq Tryd.underlying29 rfl size_R) rfl ?_
  exact ⟨⟨_, rfl, HRf.out, fun x hx => by rcases hx with rfl | rfl <;> assumption⟩, hb⟩
end Go.Proofs.YtbggkoahofnnjaaDoor
namespace Go.Proofs.YtbggkoahofnnjaaDoor
open Go.RowKit
set_option linter.unusedVariables false
attribute [local go_sem ↓] Go.wp_at_zero Go.wp_at_succ

/-- Some bytes of a row, as values. -/
def rowB (f : Nat → Nat) (o m : Nat) : List Value := byteV ((List.range m).map fun i => f (o + i))
theorem byteV_one (l : List Nat) : ∀ u ∈ byteV l, u.oneCell' = true := fun u hu => by
  simp only [byteV, List.mem_map] at hu
  obtain ⟨x, _, rfl⟩ := hu
  rfl
theorem byteV_len (l : List Nat) : (byteV l).length = l.length := by simp [byteV]
end Go.Proofs.YtbggkoahofnnjaaDoor
namespace Go.Proofs.YtbggkoahofnnjaaDoor
open Go.RowKit
set_option linter.unusedVariables false
attribute [local go_sem ↓] Go.wp_at_zero Go.wp_at_succ

end Go.Proofs.YtbggkoahofnnjaaDoor
