/-
  The document's New and mark.
-/
import Derived.Test.YtalcgipcephnnaaDoorJMeRRow
import Derived.Test.YtalcgipcephnnaaDoorJMeHarv
namespace Go.Proofs.YtalcgipcephnnaaDoor
open Go.RowKit
set_option linter.unusedVariables false
attribute [local go_sem ↓] Go.wp_at_zero Go.wp_at_succ

set_option maxHeartbeats 1000000 in
theorem rnew_ok (N n : Nat) (h0 : 0 < n) (h1 : n ≤ 16384) (hN : N = 4096 * n) (w : World) :
    Calls Tryd.prog 32 #[.int .i64 n] w fun e w' => (∃ r : RP, e = .returned (.tuple #[.agg (r.v N n), .int .i64 0]) ∧ RefAt w' N n (fun _ => 0) r ∧ ∀ x, r.owns x → w.heap.size ≤ x) ∧ Below w.heap.size w w' := by
  have hN9 : N ≤ 67108864 := by omega
  have m1 := run_make_row' (P := Tryd.prog) 43 5 (.int .u8 0) 1 Tryd.underlying43 (by kernel_rfl) rfl .i64 .i64 N (by omega) (by omega)
  have m2 := run_make_row' (P := Tryd.prog) 44 4 (.bool false) 1 Tryd.underlying44 (by kernel_rfl) rfl .i64 .i64 n (by omega) (by omega)
  have hmul : IntKind.i64.wrap (4096 * (n : Int)) = (N : Int) := by rw [IntKind.wrap_i64]; omega
  have hmul2 : (4096 : Int) * (n : Int) = (N : Int) := by omega
  have HN := hide hN
  clear hN
  go_enter Tryd.func32, Tryd.ntmps32
  go_wp2
  go_region
  all_goals go_wp2
  all_goals
    refine bodyPost_ret (results_cell_tmp_row Tryd.results32 _ _ w.heap.size _ _ _ _ rfl (((RowAt.new w _ _ _ rfl).al _).al _).dr Tryd.underlying46 rfl size_R) rfl ?_
    have hb := (below_three w (.cells #[.slice (some ⟨w.heap.size + 1, 0, none⟩) N N, .slice (some ⟨w.heap.size + 1 + 1, 0, none⟩) n n, .int .i64 0] 46) (.cells (madeCells #[.int .u8 0] N) 5) (.cells (madeCells #[.bool false] n) 4)).drew
    have hN4 := HN.out
    first
      | exact ⟨⟨⟨w.heap.size + 1, N, w.heap.size + 1 + 1, n, 0⟩, rfl, { bytes := (HoldsAt.made (RowAt.new _ _ _ _ (by simp))).al _ |>.dr, marks := ⟨fun _ => false, (HoldsAt.made (RowAt.new _ _ _ _ (by simp))).dr⟩, small := fun _ => (by decide), capB := ⟨Nat.le_refl _, (by show N ≤ maxLen; unfold maxLen; omega)⟩, capD := ⟨Nat.le_refl _, (by show n ≤ maxLen; unfold maxLen; omega)⟩, few := ⟨h0, h1, hN4⟩ }, fun x hx => by rcases hx with rfl | rfl <;> simp <;> omega⟩, (below_three w _ _ _).drew⟩
      | exact ⟨⟨⟨w.heap.size + 1 + 1, N, w.heap.size + 1, n, 0⟩, rfl, { bytes := (HoldsAt.made (RowAt.new _ _ _ _ (by simp))).dr, marks := ⟨fun _ => false, (HoldsAt.made (RowAt.new _ _ _ _ (by simp))).al _ |>.dr⟩, small := fun _ => (by decide), capB := ⟨Nat.le_refl _, (by show N ≤ maxLen; unfold maxLen; omega)⟩, capD := ⟨Nat.le_refl _, (by show n ≤ maxLen; unfold maxLen; omega)⟩, few := ⟨h0, h1, hN4⟩ }, fun x hx => by rcases hx with rfl | rfl <;> simp <;> omega⟩, (below_three w _ _ _).drew⟩

/-- Marks as values. -/
def boolV (l : List Bool) : List Value := l.map fun b => .bool b
theorem boolV_len (l : List Bool) : (boolV l).length = l.length := by simp [boolV]
theorem boolV_at {l : List Bool} {j : Nat} (h : j < l.length) : (boolV l)[j]? = some (.bool (l[j]?.getD false)) := by
  unfold boolV; rw [List.getElem?_map, List.getElem?_eq_getElem h]; rfl
theorem boolV_set (l : List Bool) (j : Nat) (b : Bool) : (boolV l).set j (.bool b) = boolV (l.set j b) := by simp [boolV, List.map_set]
theorem boolV_one (l : List Bool) : ∀ u ∈ boolV l, u.oneCell' = true := fun u hu => by
  simp only [boolV, List.mem_map] at hu
  obtain ⟨x, _, rfl⟩ := hu
  rfl
set_option maxHeartbeats 2000000 in
theorem mark_any {w : World} {N n : Nat} {f : Nat → Nat} {r : RP} (h : RefAt w N n f r) (at_ L : Nat) (h0 : 0 < L) (hin : at_ + L ≤ N) :
    Calls Tryd.prog 60 #[.agg (r.v N n), .int .i64 at_, .int .i64 L] w fun e w' => (∃ g c : Nat, e = .returned (.agg (({ r with gD := g, cD := c } : RP).v N n)) ∧ RefAt w' N n f { r with gD := g, cD := c } ∧ w.heap.size ≤ g) ∧ Below w.heap.size w w' := by
  obtain ⟨d, hd⟩ := h.marks
  have hn0 := h.few.1
  have hn9 := h.few.2.1
  have hN4 := h.few.2.2
  have hN9 : N ≤ 67108864 := by omega
  have HRef := hide h
  obtain ⟨i0, hi, hz, hs1, hby⟩ := info_parts infoBool
  have HL : Hid (((List.range n).map d).length = n) := hide (by simp)
  have HS : Hid (∀ W, Below w.heap.size w W → ∀ (j : Nat) (u : Value), (boolV ((List.range n).map d))[j]? = some u → W.cell? ((⟨r.gD, 0, none⟩ : Addr).add j) = some u) := by
    refine hide (fun W hb j u hj => ?_)
    have hjn : j < n := by have := (List.getElem?_eq_some_iff.1 hj).1; simpa [boolV] using this
    rw [Addr.add_lit, Nat.zero_add, (hd.bl hb).cell hjn, ← hj, boolV_at (by simpa using hjn), List.getElem?_map, List.getElem?_range hjn]
    rfl
  have HI : Hid (((at_ + L - 1) / 4096 < n) ∧ at_ / 4096 ≤ (at_ + L - 1) / 4096) := hide ⟨by omega, by omega⟩
  have t0 : decide ((0 : Int) < (L : Int)) = true := decide_eq_true (by omega)
  have t0' : decide (0 < L) = true := decide_eq_true h0
  have b1 : L ≤ 67108864 := by omega
  have b2 : at_ ≤ 67108864 := by omega
  clear h hd hN4 hin
  generalize (List.range n).map d = l0 at HL HS
  go_enter Tryd.func60, Tryd.ntmps60
  go_wp2_with (first | ((with_reducible refine bx_R w.heap.size r N n ?_ ?_ ?_); exact rfl; exact rfl; intro W hr hb hz0) | ((with_reducible refine al_R (w.heap.size + 1) ?_ ?_); exact hz0.out; intro W hq hb' hz'; replace hr := hr.bl (hz0.out ▸ hb'); replace hb := hb.trans (hb'.mono (by omega)); replace hz0 := hz') | ((with_reducible refine ld_D w.heap.size _ N n hr ?_ ?_); exact rfl) | (at_builtin; refine wpList_append_own _ rfl _ _ 44 rfl (w.heap.size + 1 + 1) 4 i0 (.bool false) 1 1 Tryd.underlying44 hi hz hs1 hby rfl (by decide) _ 0 [] rfl (World.ownsRow_nil _ _ _ _) ⟨r.gD, 0, none⟩ n r.cD (boolV l0) rfl (by rw [boolV_len, HL.out]; omega) (HS.out _ hb) (boolV_one l0) (by unfold maxLen; omega) (by omega) (Nat.le_of_eq hz0.out.symm) ?_; intro v' W hown hgrow hnil; clear hnil; simp only [Nat.zero_add, List.nil_append] at hown; obtain ⟨g, c, rfl, hbg, hgl⟩ := own_shape hown (by omega); have hbG := grown_below hgrow (Nat.le_refl _) (fun k e => by cases e); replace hr := hr.bl hbG; replace hq := hq.bl hbG; replace hb := hb.trans (hbG.mono hb.size); clear hgrow hbG))
  have HO := hide hown
  clear hown hi hz hs1 hby
  go_loopw [8] (fun iv wr => ∃ (i : Nat) (l : List Bool), i ≤ n ∧ iv = .int .i64 (i : Nat) ∧ l.length = n ∧ wr.ownsRow (w.heap.size + 1 + 1) 4 1 (.slice (some ⟨g, 0, none⟩) n c) n (boolV l) ∧ RowAt wr w.heap.size (r.v N n) 46 ∧ RowAt wr (w.heap.size + 1) zR 46 ∧ Below w.heap.size w wr) (fun iv _ => n - (intOf iv).toNat)
  case atStart => exact ⟨at_ / 4096, l0, by have := HI.out; omega, by go_num, HL.out, HO.out, hr, hq, hb⟩
  case round =>
    obtain ⟨i, l, hi, rfl, hl, hO, hr, hq, hb⟩ := hrel
    have HR' := hide hr
    have HQ' := hide hq
    have HB' := hide hb
    have HO' := hide hO
    have HLl := hide hl
    by_cases hlt : i ≤ (at_ + L - 1) / 4096
    · have t2 : decide ((i : Int) ≤ ((at_ : Int) + (L : Int) - 1) / 4096) = true := decide_eq_true (by omega)
      have hin := HI.out.1
      have i9 : (i : Int) < (n : Int) := by omega
      have i9' : i < n := by omega
      have hc := hO.cellAt i (by omega)
      have hf := hO.frozenAt i
      have hst := hO.stored i (.bool true)
      rw [boolV_at (by omega)] at hc
      rw [boolV_set] at hst
      have HST := hide hst
      clear hO hr hq hb hst hl HO HI hin
      go_wp2
      go_roundw
      case rel => exact ⟨i + 1, l.set i true, by omega, by go_num, by rw [List.length_set]; exact HLl.out, HST.out.1, HR'.out.far (by omega) _ _, HQ'.out.far (by omega) _ _, HB'.out.setCell (p := ⟨g, i, none⟩) (by show w.heap.size ≤ g; omega) _⟩
      case measure => simp [intOf]; omega
    · have t2 : decide ((i : Int) ≤ ((at_ : Int) + (L : Int) - 1) / 4096) = false := decide_eq_false (by omega)
      clear hO hl HO HI
      go_wp2_with (first | ((with_reducible refine st_D w.heap.size r N n g c hr ?_ ?_ ?_); exact rfl; exact rfl; intro W hnew ho; replace hq := hq.only ho (by omega); replace hr := hnew; replace hb := ho.bel _ _ (by omega) hb; have HO2 := hide (own_far HO'.out (fun x hx => ho.row x (by omega)))) | ((with_reducible refine ld_R w.heap.size _ N n hr ?_ ?_); exact rfl) | ((with_reducible refine st_R (w.heap.size + 1) _ { r with gD := g, cD := c } N n hq ?_ ?_ ?_ ?_); exact rfl; exact rfl; exact rfl; intro W hnew ho; replace hr := hr.only ho (by omega); replace hq := hnew; replace hb := ho.bel _ _ (by omega) hb; have HO3 := hide (own_far HO2.out (fun x hx => ho.row x (by omega)))))
      refine bodyPost_ret (results_cell_row Tryd.results60 _ _ (w.heap.size + 1) _ _ _ _ rfl hq Tryd.underlying46 rfl size_R) rfl ?_
      obtain ⟨g', c', e, hH, h3, h4, h5⟩ := holds_of_own HO3.out hn0 (f := fun j => .bool (l[j]?.getD false)) (fun j hj => boolV_at (by have := HLl.out; omega))
      cases e
      have hR := HRef.out.bl hb
      exact ⟨⟨g, c, rfl, { bytes := hR.bytes, marks := ⟨_, hH⟩, small := hR.small, capB := hR.capB, capD := ⟨h4, h5⟩, few := hR.few }, by omega⟩, hb⟩
end Go.Proofs.YtalcgipcephnnaaDoor
