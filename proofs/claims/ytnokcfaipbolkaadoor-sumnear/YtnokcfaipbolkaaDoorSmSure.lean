/-
  What the laws call: sure, own, num; Cut's two answers, together.
-/
import Derived.Test.YtnokcfaipbolkaaDoorSmRefT
import Derived.Test.YtnokcfaipbolkaaDoorNum
import Derived.Test.YtnokcfaipbolkaaDoorAs
import Derived.Lib.SlBytesConst
namespace Go.Proofs.YtnokcfaipbolkaaDoor
open Go.RowKit
set_option linter.unusedVariables false
set_option linter.unusedSimpArgs false

theorem sum_ex : sumL [49, 50, 51, 52, 53, 54, 55, 56, 57] = 58124007 := by decide +kernel
theorem ex_lt : ∀ x ∈ [49, 50, 51, 52, 53, 54, 55, 56, 57], x < 256 := by decide
def exC : Array Value := #[.int .u8 49, .int .u8 50, .int .u8 51, .int .u8 52, .int .u8 53, .int .u8 54, .int .u8 55, .int .u8 56, .int .u8 57]
theorem rd_newM {e : TypeId} (W : World) (cs : Array Value) (fz : Nat × Nat) (l : List Nat) (h : cs = (byV l).toArray) (hl : ∀ x ∈ l, x < 256) (n : Nat) (hn : l.length = n) (hm : n ≤ 9223372036854775807) : Rd (W.alloc (.cells cs e fz)).heap.size (W.alloc (.cells cs e fz)) (.slice (some ⟨W.heap.size, 0, none⟩) n n) l := by
  subst h hn
  have hr : (W.alloc (.cells (byV l).toArray e fz)).heap[W.heap.size]? = some (.cells (byV l).toArray e fz) := heap_alloc_new W _
  refine ⟨hl, _, l.length, rfl, Nat.le_refl _, hm, fun _ => ⟨W.heap.size, 0, rfl, (Array.getElem?_eq_some_iff.1 hr).1, fun j hj => ?_⟩⟩
  rw [cell_of_row _ _ _ _ _ fz hr, Nat.zero_add, List.getElem?_toArray]
  exact byV_get hj
set_option maxRecDepth 100000 in
set_option maxHeartbeats 1000000 in
theorem sure_any (w : World) (hT : TabAt w) : Calls Tryd.prog 8 #[] w fun e w' => e = .returned (.bool true) ∧ Below w.heap.size w w' := by
  have HR := hide (rd_newM (e := 5) w exC (exC.size, exC.size + 1) [49, 50, 51, 52, 53, 54, 55, 56, 57] rfl ex_lt 9 rfl (by decide))
  have HT := hide (hT.below (below_one w (.cells exC 5 (exC.size, exC.size + 1))))
  have HO := hide (of_any _ HR.out HT.out)
  rw [sum_ex] at HO
  have HB := hide (below_one w (.cells exC 5 (exC.size, exC.size + 1)))
  have kc := fun (w : World) (C : Array Value) (n c : Nat) => Lib.run_convert_bytes_const (P := Tryd.prog) w 23 5 C n c Tryd.underlying23 Tryd.underlying5
  clear hT
  go_enter Tryd.func8, Tryd.ntmps8
  go_wp2_with (go_at_call 9; refine (HO.out).mono ?_; rintro e w' ⟨rfl, rfl⟩)
  go_ret
  exact ⟨rfl, HB.out⟩
set_option maxHeartbeats 1000000 in
theorem own_any {B : Nat} {v : Value} {l : List Nat} (w : World) (h : Rd B w v l) (hn : l.length ≤ 100000) :
    Calls Tryd.prog 20 #[v] w fun e w' => ∃ v', e = .returned v' ∧ Own w.heap.size 5 w' v' l ∧ Below w.heap.size w w' := by
  obtain ⟨i0, hi0, hz0, hs0, hb0⟩ := info_u8
  have HI := hide hi0
  have HZ := hide hz0
  have HS := hide hs0
  have HB := hide hb0
  clear hi0 hz0 hs0 hb0
  have HR := hide h
  have HN := hide hn
  have hb : Below w.heap.size w w := Below.refl _ w
  have HNL := hide (Own.nil w.heap.size 5 w)
  clear h hn
  go_enter Tryd.func20, Tryd.ntmps20
  go_wp2_with ((with_reducible refine op_app i0 Tryd.underlying23 HI.out HZ.out HS.out HB.out HNL.out HR.out ?_ ?_ ?_ ?_ ?_); (have := HN.out; simp; omega); exact Nat.le_refl _; exact rfl; exact rfl; intro W vq hown hgr; replace hb := hb.grown hgr (Nat.le_refl _) (fun k hk => by cases hk); rw [List.nil_append] at hown)
  go_ret
  exact ⟨_, rfl, hown, hb⟩
/-- An error with this number, none where it is 0. -/
def errS (n : Nat) : Value := if n = 0 then .nilIface else .iface 47 (.int .i64 (n : Nat))
theorem nums_any (n : Nat) (w : World) (hg : HandleAt w) : Calls Tryd.prog 17 #[errS n] w fun e w' => e = .returned (.int .i64 (n : Nat)) ∧ Below w.heap.size w w' := by
  by_cases h : n = 0
  · subst h
    exact num_nil w
  · unfold errS
    rw [if_neg h]
    exact num_err n w hg
theorem HandleAt.below {w w' : World} (h : HandleAt w) (hb : Below w.heap.size w w') : HandleAt w' := by
  have hl : 1 < w.heap.size := by
    rcases Nat.lt_or_ge 1 w.heap.size with h' | h'
    · exact h'
    · simp [HandleAt, World.cell?, Array.getElem?_eq_none h'] at h
  exact (hb.cell (p := ⟨1, 0, none⟩) hl).trans h
theorem Rd.nil (B : Nat) (w : World) : Rd B w (.slice Option.none 0 0) [] := ⟨(fun _ h => nomatch h), Option.none, 0, rfl, Nat.le_refl _, by decide, fun h => absurd h (by decide)⟩
/-- What Cut answers, together. -/
def cutL (l : List Nat) : List Nat := if 4 ≤ l.length ∧ okL l = true then l.take (l.length - 4) else []
def cutE (l : List Nat) : Nat := if l.length < 4 then 12 else if okL l = true then 0 else 11
theorem cutu_any {B : Nat} {v : Value} {l : List Nat} (w : World) (h : Rd B w v l) (hB : B ≤ w.heap.size) (hn : l.length ≤ 100000) (hT : TabAt w) :
    Calls Tryd.prog 13 #[v] w fun e w' => ∃ v', e = .returned (.tuple #[v', errS (cutE l)]) ∧ Rd w'.heap.size w' v' (cutL l) ∧ Below w.heap.size w w' := by
  refine (cut_any w h hB hn hT).mono ?_
  rintro e w' (⟨h4, rfl, rfl⟩ | ⟨h4, ⟨h5, v', rfl, h6, h7⟩ | ⟨h5, rfl, h6⟩⟩)
  · rw [cutE, cutL, if_pos h4, if_neg (by omega)]
    exact ⟨_, rfl, Rd.nil _ _, Below.refl _ _⟩
  · rw [cutE, cutL, if_neg (by omega), if_pos h5, if_pos ⟨h4, h5⟩]
    exact ⟨_, rfl, h6.rd, h7⟩
  · rw [cutE, cutL, if_neg (by omega), if_neg (by rw [h5]; decide), if_neg (by rw [h5]; simp)]
    exact ⟨_, rfl, Rd.nil _ _, h6⟩
theorem rcutu_any {B : Nat} {v : Value} {l : List Nat} (w : World) (h : Rd B w v l) (hB : B ≤ w.heap.size) (hn : l.length ≤ 100000) :
    Calls Tryd.prog 14 #[v] w fun e w' => ∃ v', e = .returned (.tuple #[v', .int .i64 (cutE l : Nat)]) ∧ Rd w'.heap.size w' v' (cutL l) ∧ Below w.heap.size w w' := by
  refine (rcut_any w h hB hn).mono ?_
  rintro e w' (⟨h4, rfl, rfl⟩ | ⟨h4, ⟨h5, v', rfl, h6, h7⟩ | ⟨h5, rfl, h6⟩⟩)
  · rw [cutE, cutL, if_pos h4, if_neg (by omega)]
    exact ⟨_, rfl, Rd.nil _ _, Below.refl _ _⟩
  · rw [cutE, cutL, if_neg (by omega), if_pos h5, if_pos ⟨h4, h5⟩]
    exact ⟨_, rfl, h6.top, h7⟩
  · rw [cutE, cutL, if_neg (by omega), if_neg (by rw [h5]; decide), if_neg (by rw [h5]; simp)]
    exact ⟨_, rfl, Rd.nil _ _, h6⟩
/-- What Tail made is whole. -/
theorem cut_tail (l : List Nat) (hl : ∀ x ∈ l, x < 256) : cutL (l ++ tail4 (sumL l)) = l ∧ cutE (l ++ tail4 (sumL l)) = 0 := by
  have hlen : (l ++ tail4 (sumL l)).length = l.length + 4 := by rw [List.length_append]; rfl
  have hok : okL (l ++ tail4 (sumL l)) = true := by
    rw [ok_whole _ l.length hlen, List.take_left]
    simp
  constructor
  · rw [cutL, if_pos ⟨by omega, hok⟩, hlen, Nat.add_sub_cancel, List.take_left]
  · rw [cutE, if_neg (by omega), if_pos hok]
end Go.Proofs.YtnokcfaipbolkaaDoor
