/-
  What blk's number answers.
-/
import Derived.Test.YtaaiockiojejeaaGreatDoorJR28
import Derived.Test.YtaaiockiojejeaaGreatDoorJR4
import Derived.Deep.MidRow
import Derived.Test.YtaaiockiojejeaaGreatDoorJR27
import Derived.Test.YtaaiockiojejeaaGreatDoorJR20
import Derived.Deep.CutRange
namespace Go.Proofs.YtaaiockiojejeaaGreatDoor
open Go.RowKit Go.Shelf
set_option linter.unusedVariables false

attribute [local go_sem] Oper.semAt_some
abbrev SgO := { s : Sg // s.Ok }
abbrev PairS := Nat × SgO
def downS (g : Nat → SgO) (len : Nat) (k : Nat) : PairS := (len - 1 - k, g (len - 1 - k))
/-- Parts that lie one behind the other. -/
def SegAt (w : World) (b off : Nat) (len : Nat) (g : Nat → SgO) : Prop := ∀ j, j < len → ∀ i, i < 3 → w.cell? ⟨b, off + j * 3 + i, none⟩ = (g j).1.cells[i]?
theorem SegAt.bel {w W : World} {b off len n₀ : Nat} {g : Nat → SgO} (h : SegAt w b off len g) (hb : Below n₀ w W) (hl : b < n₀) : SegAt W b off len g := fun j hj i hi => (hb.cell (p := ⟨b, off + j * 3 + i, none⟩) hl).trans (h j hj i hi)
set_option maxRecDepth 100000 in
set_option maxHeartbeats 2000000 in
theorem backs1_in (F : Fence) (n : Nat) (hf : F.fn 147) (hro : F.round = none) (hn : 1 ≤ n) (l Bs n₀ b off len cap : Nat) (g : Nat → SgO) (hreach : len ≤ 1000000) (hb : b < n₀) (J Jx : List PairS → World → Prop)
    (hY : ∀ pre x W, J pre W → pre.length < len → YieldAt F (n - 1) Tryz.prog l #[.int .i64 (x.1 : Int), .agg x.2.1.cells] W fun e W' =>
      (e = .returned (.bool true) ∧ J (pre ++ [x]) W' ∧ KeepB n₀ Bs W W') ∨ (e = .returned (.bool false) ∧ Jx (pre ++ [x]) W'))
    (W : World) (hBs : W.cell? ⟨Bs, 0, none⟩ = some (.slice (some ⟨b, off, none⟩) len cap)) (hc : SegAt W b off len g) (h0 : J [] W) :
    CallsIn F n Tryz.prog 147 #[.func (.yield l) #[] #[], .pointer (some ⟨Bs, 0, none⟩)] W fun e W' => (∃ v, e = .returned v) ∧
      ((∃ ys, ys = upto (downS g len) len ∧ J ys W') ∨ (∃ pre, (∃ k, k ≤ len ∧ pre = upto (downS g len) k) ∧ Jx pre W')) := by
  refine callsIn_of_wp Tryz.func147 rfl hf ?_ hro
  simp only [Tryz.ntmps147, List.size_toArray, List.length_cons, List.length_nil, Nat.reduceAdd, Nat.reduceSub, Array.replicate_succ, Array.replicate_zero, List.push_toArray, List.append_toArray, List.nil_append, List.cons_append]
  gi_wp2
  gi_loopw [3] (fun i wr => ∃ k : Nat, k ≤ len ∧ i = .int .i64 ((len : Int) - 1 - k) ∧ J (upto (downS g len) k) wr ∧ KeepB n₀ Bs W wr)
    (fun i _ => (intOf i + 1).toNat)
  case atStart => exact ⟨0, Nat.zero_le _, by simp, h0, KeepB.refl _ _ _⟩
  case round =>
    obtain ⟨k, hk, rfl, hJs, hnx⟩ := hrel
    have hBs' : wr.cell? ⟨Bs, 0, none⟩ = some (.slice (some ⟨b, off, none⟩) len cap) := (cell_of_same hnx.2 0).trans hBs
    by_cases hlt : k < len
    · obtain ⟨m, hm⟩ : ∃ m, m = len - 1 - k := ⟨_, rfl⟩
      have hmi : (len : Int) - 1 - k = (m : Int) := by omega
      have hml : m < len := by omega
      have hcx := (hc.bel hnx.1 hb) m hml
      obtain ⟨sg, hsg⟩ : ∃ x, g m = x := ⟨_, rfl⟩
      rw [hsg] at hcx
      obtain ⟨⟨sa, sn, sw⟩, hok⟩ := sg
      have c0 : wr.cell? ⟨b, off + m * 3, none⟩ = some (.int .u32 (sa : Nat)) := hcx 0 (by decide)
      have c1 : wr.cell? ⟨b, off + m * 3 + 1, none⟩ = some (.int .i64 sn) := hcx 1 (by decide)
      have c2 : wr.cell? ⟨b, off + m * 3 + 2, none⟩ = some (.bool sw) := hcx 2 (by decide)
      obtain ⟨fn, tmps, assign, body, hy, hR⟩ := hY _ (m, g m) wr hJs (by rw [upto_length]; exact hlt)
      dsimp only at hy
      rw [hsg] at hy hR
      simp only [Sg.cells] at hy
      have HE : Hid ((m, g m) = downS g len k) := by show _ = _; unfold downS; rw [hm]
      rw [hmi]
      have HM : Hid (m = len - 1 - k) := hm
      have HI : Hid ((len : Int) - 1 - k = (m : Int)) := hmi
      rw [hsg] at HE
      clear hmi hm hcx hc hsg
      gi_wp2
      refine hR.mono ?_
      rintro e W3 (⟨rfl, hJ3, hk3⟩ | ⟨rfl, hJx3⟩)
      · gi_wp2
        go_roundw
        case rel => exact ⟨k + 1, by omega, by have := HM.out; go_num, by rw [upto_succ, ← HE.out]; exact hJ3, hnx.trans hk3⟩
        case measure => simp [intOf]
      · gi_wp2
        refine bodyPost_ret (results_none rfl _ _ _) rfl ?_
        exact ⟨⟨_, rfl⟩, .inr ⟨_, ⟨k + 1, by omega, by rw [upto_succ, ← HE.out]⟩, hJx3⟩⟩
    · obtain rfl : k = len := by omega
      gi_wp2
      go_end0
      exact ⟨⟨_, rfl⟩, .inl ⟨_, rfl, hJs⟩⟩
set_option maxHeartbeats 1000000 in
theorem backs_in (F : Fence) (n : Nat) (hf : F.fn 125) (hro : F.round = none) (a : Option Addr) (len cap : Nat) (w : World) :
    CallsIn F n Tryz.prog 125 #[.slice a len cap] w fun e w' => e = .returned (.func (.func 147) #[] #[.pointer (some ⟨w.heap.size, 0, none⟩)]) ∧ w' = w.alloc (.cells #[.slice a len cap] 100) := by
  refine callsIn_of_wp Tryz.func125 rfl hf ?_ hro
  simp only [Tryz.ntmps125, List.size_toArray, List.length_cons, List.length_nil, Nat.reduceAdd, Nat.reduceSub, Array.replicate_succ, Array.replicate_zero, List.push_toArray, List.append_toArray, List.nil_append, List.cons_append]
  gi_wp2
  go_ret
  exact ⟨rfl, rfl⟩
theorem backs_stops (F : Fence) (n : Nat) (hf : F.fn 147) (hro : F.round = none) (hn : 1 ≤ n) (Bs n₀ b off len cap : Nat) (g : Nat → SgO) (hreach : len ≤ 1000000) (hb : b < n₀) (w : World) (hBs : Bs < w.heap.size) (hn₀ : n₀ ≤ w.heap.size)
    (hc : w.cell? ⟨Bs, 0, none⟩ = some (.slice (some ⟨b, off, none⟩) len cap)) (hI : SegAt w b off len g) :
    SeqStopsK F n Tryz.prog 147 #[.pointer (some ⟨Bs, 0, none⟩)] (fun x : PairS => #[Value.int .i64 (x.1 : Int), Value.agg x.2.1.cells]) (KeepB n₀ Bs) (fun ys => ys = upto (downS g len) len)
      (fun pre => ∃ k, k ≤ len ∧ pre = upto (downS g len) k) len w := fun l J Jx W hW _ _ hY h0 => by
  have hc' := (hW.cell (p := ⟨Bs, 0, none⟩) hBs).trans hc
  exact backs1_in F n hf hro hn l Bs n₀ b off len cap g hreach hb J Jx hY W hc' (hI.bel hW (by omega)) h0
end Go.Proofs.YtaaiockiojejeaaGreatDoor
namespace Go.Proofs.YtaaiockiojejeaaGreatDoor
open Go.RowKit
set_option linter.unusedVariables false
set_option linter.unusedSimpArgs false

def lefF : Int → List Sg → Int
  | n, [] => n
  | n, s :: t => lefF (n - if s.n ≤ n then s.n else n) t
theorem firL_app : ∀ (l m : List Sg) (n : Int), firL n (l ++ m) = firL n l ++ firL (lefF n l) m
  | [], m, n => rfl
  | s :: t, m, n => by simp only [List.cons_append, firL, lefF]; rw [firL_app t m]
theorem lefF_app : ∀ (l m : List Sg) (n : Int), lefF n (l ++ m) = lefF (lefF n l) m
  | [], m, n => rfl
  | s :: t, m, n => by simp only [List.cons_append, lefF]; rw [lefF_app t m]
theorem firL_len : ∀ (l : List Sg) (n : Int), (firL n l).length = l.length
  | [], n => rfl
  | s :: t, n => by simp only [firL, List.length_cons]; rw [firL_len t]
theorem lefF_in : ∀ (l : List Sg) (n : Int), (∀ s ∈ l, 0 ≤ s.n) → 0 ≤ n → 0 ≤ lefF n l ∧ lefF n l ≤ n
  | [], n, _, h => ⟨h, Int.le_refl _⟩
  | s :: t, n, hs, h => by
    have h1 := hs s (List.mem_cons_self ..)
    simp only [lefF]
    have := lefF_in t (n - if s.n ≤ n then s.n else n) (fun x hx => hs x (List.mem_cons_of_mem _ hx)) (by split <;> omega)
    refine ⟨this.1, Int.le_trans this.2 ?_⟩
    split <;> omega
theorem firL_ok : ∀ (l : List Sg) (n : Int), (∀ s ∈ l, s.Ok ∧ 0 ≤ s.n) → 0 ≤ n → n ≤ 16 → ∀ s ∈ firL n l, s.Ok ∧ 0 ≤ s.n
  | [], n, _, _, _ => fun s h => by cases h
  | x :: t, n, hs, h0, h1 => fun s h => by
    have hx := hs x (List.mem_cons_self ..)
    have a1 := hx.1.n1
    simp only [firL] at h
    rcases List.mem_cons.1 h with rfl | h
    · refine ⟨⟨hx.1.at', ?_, ?_⟩, ?_⟩
      all_goals (show _; simp only; split <;> omega)
    · exact firL_ok t _ (fun y hy => hs y (List.mem_cons_of_mem _ hy)) (by split <;> omega) (by split <;> omega) s h
theorem segL_set : ∀ (l : List Sg) (k : Nat) (s : Sg) (m : Int), l[k]? = some s → (segL l).set (k * 3 + 1) (.int .i64 m) = segL (l.set k { s with n := m })
  | [], k, s, m, h => by simp at h
  | x :: t, 0, s, m, h => by
    simp only [List.getElem?_cons_zero, Option.some.injEq] at h
    subst h
    show (x.cells.toList ++ segL t).set 1 _ = ({ x with n := m } : Sg).cells.toList ++ segL t
    rw [List.set_append_left _ _ (by show 1 < 3; decide)]
    rfl
  | x :: t, k + 1, s, m, h => by
    have ih := segL_set t k s m (by simpa using h)
    show (x.cells.toList ++ segL t).set ((k + 1) * 3 + 1) _ = x.cells.toList ++ segL (t.set k { s with n := m })
    rw [List.set_append_right _ _ (by show 3 ≤ _; omega), show (k + 1) * 3 + 1 - x.cells.toList.length = k * 3 + 1 by show (k + 1) * 3 + 1 - 3 = _; omega, ih]
/-- The first k cut, the others as they are. -/
def cutK (n : Int) (l : List Sg) (k : Nat) : List Sg := firL n (l.take k) ++ l.drop k
theorem cutK_at {n : Int} {l : List Sg} {k : Nat} {s : Sg} (h : l[k]? = some s) : (cutK n l k)[k]? = some s := by
  have hk := (List.getElem?_eq_some_iff.1 h).1
  unfold cutK
  rw [List.getElem?_append_right (by rw [firL_len, List.length_take]; omega), firL_len, List.length_take, Nat.min_eq_left (by omega), Nat.sub_self, List.getElem?_drop]
  exact h
theorem cutK_step {n : Int} {l : List Sg} {k : Nat} {s : Sg} {m : Int} (h : l[k]? = some s) (hm : m = if s.n ≤ lefF n (l.take k) then s.n else lefF n (l.take k)) : (cutK n l k).set k { s with n := m } = cutK n l (k + 1) ∧ lefF n (l.take (k + 1)) = lefF n (l.take k) - m := by
  have hk := (List.getElem?_eq_some_iff.1 h).1
  have ht : l.take (k + 1) = l.take k ++ [s] := by rw [List.take_add_one, h]; rfl
  have hd : l.drop k = s :: l.drop (k + 1) := by rw [List.drop_eq_getElem_cons hk, (List.getElem?_eq_some_iff.1 h).2]
  refine ⟨?_, by rw [ht, lefF_app]; simp only [lefF]; rw [← hm]⟩
  unfold cutK
  rw [ht, firL_app, hd, List.set_append_right _ _ (by rw [firL_len, List.length_take]; omega), firL_len, List.length_take, Nat.min_eq_left (by omega), Nat.sub_self]
  simp only [List.set_cons_zero, firL]
  rw [← hm, List.append_assoc]
  rfl
variable {ops : Array Oper} {rest : List Oper} {dst : Option Tmp} {ty : TypeId} {pos : String} {after : Array Edge} {a : Act} {w : World} {Q : Exit → Act → World → Prop} {x y : Operand}
theorem ld_segn (b j : Nat) (z : Int) (cur : Array Value) (t' : TypeId) (hr : RowAt w b cur t') (hv : cur[j]? = some (.int .i64 z)) (hx : a.eval x = .pointer (some ⟨b, j, none⟩))
    (k : wpList Tryz.prog ops Q rest (a.put dst (.int .i64 z)) w) : wpList Tryz.prog ops Q (⟨dst, .load 3 x, ty, pos, after, none⟩ :: rest) a w :=
  op_load_cell b j hx cur _ _ hr hv _ Tryz.underlying3 rfl k
theorem st_segn (b j : Nat) (z : Int) (cur : Array Value) (t' : TypeId) (hr : RowAt w b cur t') (hs : j < cur.size) (hx : a.eval x = .pointer (some ⟨b, j, none⟩)) (hy : a.eval y = .int .i64 z)
    (k : ∀ W, RowAt W b (cur.setIfInBounds j (.int .i64 z)) t' → Only b w W → wpList Tryz.prog ops Q rest (a.put dst undef) W) : wpList Tryz.prog ops Q (⟨dst, .store 3 x y, ty, pos, after, none⟩ :: rest) a w :=
  op_store_cell b j hx _ hy cur _ _ hr size_i64i hs rfl rfl k
set_option maxHeartbeats 2000000 in
theorem first_any (l : List Sg) (hl : l.length ≤ 1000) (hl0 : 0 < l.length) (hw : ∀ s ∈ l, s.Ok ∧ 0 ≤ s.n) {w : World} {Bl : Nat} {v : Value} (hL : w.ownsRow Bl 103 3 v l.length (segL l)) :
    Calls Tryz.prog 71 #[v, .int .i64 16] w fun e w' => ∃ v', e = .returned v' ∧ w'.ownsRow w.heap.size 103 3 v' l.length (segL (firL 16 l)) ∧ Below w.heap.size w w' := by
  have HC : Hid (Calls Tryz.prog 64 #[v] w fun e w' => ∃ v', e = .returned v' ∧ w'.ownsRow w.heap.size 103 3 v' l.length (segL l) ∧ Below w.heap.size w w') := hide (clone_s l.length (segL l) (segL_ones _) (by omega) hL)
  obtain ⟨n, hn⟩ : ∃ n, l.length = n := ⟨_, rfl⟩
  have HN := hide hn
  rw [hn] at HC hl hl0 ⊢
  clear hL hn
  go_enter Tryz.func71, Tryz.ntmps71
  go_wp2_with (first | (go_at_call 64; (with_reducible refine HC.out.mono ?_); rintro e W2 ⟨v1, rfl, hv, hb⟩; obtain ⟨gb, c1, cur0, rfl, hc1, hc2, hgB, _, _, _⟩ := own_row hv hl0))
  go_loopw [1, 11] (fun nv iv wr => ∃ (k : Nat), k ≤ n ∧ iv = .int .i64 (k : Nat) ∧ nv = .int .i64 (lefF 16 (l.take k)) ∧ wr.ownsRow w.heap.size 103 3 (.slice (some ⟨gb, 0, none⟩) n c1) n (segL (cutK 16 l k)) ∧ Below w.heap.size w wr) (fun nv iv _ => n - (intOf iv).toNat)
  case atStart => exact ⟨0, Nat.zero_le _, rfl, rfl, hv, hb⟩
  case round =>
    clear hv hb HC
    obtain ⟨k, hk, rfl, rfl, hv, hb⟩ := hrel
    by_cases hlt : k < n
    · obtain ⟨gb', cap', cur, hve, _, _, _, hLr, hcs, htk⟩ := own_row hv (show 0 < n by omega)
      obtain ⟨rfl, rfl⟩ : gb = gb' ∧ c1 = cap' := by injection hve with e1 e2 e3; injection e1 with e1; injection e1 with e1; exact ⟨e1, e3⟩
      obtain ⟨s, hs⟩ : ∃ s, l[k]? = some s := ⟨_, List.getElem?_eq_getElem (by rw [HN.out]; exact hlt)⟩
      obtain ⟨hok, hs0⟩ := hw s (List.mem_of_getElem? hs)
      have ok1 := hok.n1
      obtain ⟨f0, f1⟩ := lefF_in (l.take k) 16 (fun x hx => (hw x (List.mem_of_mem_take hx)).2) (by decide)
      obtain ⟨m, hm⟩ : ∃ m, m = if s.n ≤ lefF 16 (l.take k) then s.n else lefF 16 (l.take k) := ⟨_, rfl⟩
      obtain ⟨hst, hlf⟩ := cutK_step hs hm
      have hmb : 0 ≤ m ∧ m ≤ lefF 16 (l.take k) := by rw [hm]; split <;> omega
      have hcu : cur[k * 3 + 1]? = some (.int .i64 s.n) := by
        have := segL_at (cutK 16 l k) k s (cutK_at hs) 1 (by decide)
        rw [← htk, List.getElem?_take] at this
        split at this
        · rw [← Array.getElem?_toList]; exact this
        · simp [Sg.cells] at this
      have hcl : k * 3 + 1 < cur.size := by rw [hcs]; omega
      have hcu2 : (cur.setIfInBounds (k * 3 + 1) (.int .i64 m))[k * 3 + 1]? = some (.int .i64 m) := Array.getElem?_setIfInBounds_self_of_lt hcl
      have hsg := segL_set (cutK 16 l k) k s m (cutK_at hs)
      rw [hst] at hsg
      have HSG := hide hsg
      have HLF := hide hlf
      have emin : min s.n (lefF 16 (l.take k)) = m := by rw [hm, Int.min_def]
      have emi2 : Hid ((if s.n ≤ lefF 16 (l.take k) then s.n else lefF 16 (l.take k)) = m) := hide hm.symm
      have HV := hide hv
      generalize lefF 16 (l.take k) = nl at *
      have hlt' : (k : Int) < (n : Int) := by omega
      clear hst hsg hlf hs hok htk hve hv hm
      go_wp2_with (first | ((with_reducible refine ld_segn gb (k * 3 + 1) s.n cur _ hLr hcu ?_ ?_); exact rfl) | ((with_reducible refine st_segn gb (k * 3 + 1) m cur _ hLr hcl ?_ ?_ ?_); exact rfl; (first | exact rfl | (exact congrArg _ emi2.out)); intro W hnew ho; have HV2 := hide (own_set HV.out rfl hLr hnew); replace hb := ho.bel _ _ (by omega) hb; clear hLr hcu) | ((with_reducible refine ld_segn gb (k * 3 + 1) m _ _ hnew hcu2 ?_ ?_); exact rfl))
      go_roundw
      case rel => exact ⟨k + 1, hlt, by go_num, by rw [HLF.out], by rw [← HSG.out]; exact HV2.out, hb⟩
      case measure => simp [intOf]; omega
    · obtain rfl : k = n := by omega
      have ht : cutK 16 l k = firL 16 l := by unfold cutK; rw [← HN.out, List.take_length, List.drop_length, List.append_nil]
      rw [ht] at hv
      go_wp2
      go_ret
      exact ⟨_, rfl, hv, hb⟩
end Go.Proofs.YtaaiockiojejeaaGreatDoor
namespace Go.Proofs.YtaaiockiojejeaaGreatDoor
open Go.RowKit
set_option linter.unusedVariables false
set_option linter.unusedSimpArgs false

theorem inS_less {p : Nat} {s : Sg} {n : Int} (h : inS p s = true) (h0 : 0 ≤ n) (hn : n ≤ s.n) : inS p { s with n := n } = true := by
  unfold inS plB at *
  have := of_decide_eq_true h
  exact decide_eq_true (by simp only; omega)
theorem parts_inS {p : Nat} (wr : Bool) : ∀ (l : List Sg) (n : Int), (∀ s ∈ l, inS p s = true) → (partsV wr n l).all (inS p) = true
  | [], n, h => rfl
  | s :: t, n, h => by
    have ht := fun n => parts_inS wr t n (fun x hx => h x (List.mem_cons_of_mem _ hx))
    simp only [partsV]
    split
    · rename_i hx
      rw [List.all_cons, ht, Bool.and_true]
      exact inS_less (h s (List.mem_cons_self ..)) (by split <;> omega) (by split <;> omega)
    · exact ht n
theorem firs_inS {p : Nat} : ∀ (l : List Sg) (n : Int), 0 ≤ n → (∀ s ∈ l, inS p s = true ∧ 0 ≤ s.n) → ∀ s ∈ firL n l, inS p s = true
  | [], n, _, h => fun s hs => by cases hs
  | x :: t, n, h0, h => fun s hs => by
    have hx := h x (List.mem_cons_self ..)
    simp only [firL] at hs
    rcases List.mem_cons.1 hs with rfl | hs
    · exact inS_less hx.1 (by split <;> omega) (by split <;> omega)
    · exact firs_inS t _ (by split <;> omega) (fun y hy => h y (List.mem_cons_of_mem _ hy)) s hs
theorem odd_parts (p : Nat) : ∀ (l : List (Nat → Nat)) (tot : Nat) (wr : Bool), oddL p tot wr l = false → (∀ g ∈ l, inS p (sgOf g) = true) ∧ (0 < l.length → tot + (l.map fun g => g 2).sum ≤ 1048576)
  | [], tot, wr, h => ⟨fun g hg => (by cases hg), fun h => absurd h (by decide)⟩
  | g :: t, tot, wr, h => by
    simp only [oddL, oddD, Bool.or_eq_false_iff, decide_eq_false_iff_not, Bool.not_eq_false'] at h
    obtain ⟨⟨_, h2, _, _, h5⟩, h6⟩ := h
    obtain ⟨i1, i2⟩ := odd_parts p t _ _ h6
    refine ⟨fun x hx => ?_, fun _ => ?_⟩
    · rcases List.mem_cons.1 hx with rfl | hx
      · exact h5
      · exact i1 x hx
    · simp only [List.map_cons, List.sum_cons]
      cases t with
      | nil => simp; omega
      | cons y t => have := i2 (by simp); omega
/-- What is so of the parts of a chain. -/
structure PartsOk (p : Nat) (ps : List Sg) : Prop where
  ok : ∀ s ∈ ps, s.Ok ∧ 0 ≤ s.n
  ins : ∀ s ∈ ps, inS p s = true
  len : ps.length ≤ 256
  pos : 0 < ps.length
  tot : (ps.map fun s => s.n.toNat).sum ≤ 1048576
theorem walk_parts {p : Nat} {f : Nat → Nat} {r : Rg} {hd : Int} {ps : List Sg} (hf : ∀ x, f x < 256) (hc : chkR r = true) (h : walkV p f r hd = some ps) : PartsOk p ps := by
  unfold walkV at h
  cases hfo : followV p f r r.sz.toNat hd with
  | none => rw [hfo] at h; cases h
  | some l =>
    rw [hfo] at h
    simp only at h
    cases ho : oddL p 0 false l with
    | true => rw [ho] at h; simp at h
    | false =>
      rw [ho] at h
      simp at h
      subst h
      obtain ⟨k, hk, hk0, hk1⟩ := chkR_sz hc
      obtain ⟨h1, h2⟩ := follow_len _ _ _ hfo
      rw [hk, Int.toNat_natCast] at h1
      have hw := follow_words hf _ _ _ hfo
      obtain ⟨i1, i2⟩ := odd_parts p l 0 false ho
      refine ⟨fun s hs => ?_, fun s hs => ?_, by rw [List.length_map]; omega, by rw [List.length_map]; exact h2, ?_⟩
      · obtain ⟨g, hg, rfl⟩ := List.mem_map.1 hs
        have a0 := hw g hg 0
        have a2 := hw g hg 2
        exact ⟨⟨a0, by show (_ : Int) ≤ ((g 2 : Nat) : Int); omega, by show ((g 2 : Nat) : Int) ≤ _; omega⟩, by show (0 : Int) ≤ ((g 2 : Nat) : Int); omega⟩
      · obtain ⟨g, hg, rfl⟩ := List.mem_map.1 hs
        exact i1 g hg
      · rw [List.map_map]
        have e : ((fun s => s.n.toNat) ∘ sgOf) = fun g : Nat → Nat => g 2 := by funext g; show ((g 2 : Nat) : Int).toNat = _; simp
        rw [e]
        have := i2 h2
        omega
end Go.Proofs.YtaaiockiojejeaaGreatDoor
namespace Go.Proofs.YtaaiockiojejeaaGreatDoor
open Go.RowKit
set_option linter.unusedVariables false
set_option linter.unusedSimpArgs false

/-- The memory's blocks, and a list's own. -/
def Or1 (O : Nat → Prop) (v : Value) : Nat → Prop := fun x => O x ∨ v.ownBlock = some x
theorem Went.or {B : Nat} {O O' : Nat → Prop} {w W : World} (h : Went B O O' w W) (v : Value) : Went B (Or1 O v) (Or1 O' v) w W :=
  ⟨h.below, h.size, fun x hx hn => h.other x hx (fun e => hn (.inl e)), fun x hx e => e.elim (fun k => .inl (h.own x hx k)) .inr⟩
/-- .. behind one that began when the list was not there. -/
theorem Went.then1 {B : Nat} {O O1 O2 : Nat → Prop} {w W W' : World} {v v' : Value} (h : Went B O O1 w W) (k : Went B (Or1 O1 v) (Or1 O2 v') W W') (hv : ∀ g, v.ownBlock = some g → w.heap.size ≤ g) : Went B O O2 w W' :=
  ⟨h.below.trans k.below, Nat.le_trans h.size k.size, fun x hx hn => (k.other x (Nat.lt_of_lt_of_le hx h.size) (fun e => e.elim (fun q => hn (h.own x hx q)) (fun q => absurd (hv x q) (by omega)))).trans (h.other x hx hn),
   fun x hx e => by
    rcases k.own x (Nat.lt_of_lt_of_le hx h.size) (.inl e) with q | q
    · exact h.own x hx q
    · exact absurd (hv x q) (by omega)⟩
/-- What the disk is asked for, with its data. -/
structure AkAt (w : World) (B : Nat) (O : Nat → Prop) (k : Ak) (dv : Value) : Prop where
  ex : (k.da = [] ∧ dv = nilS) ∨ ∃ g cap all, dv = .slice (some ⟨g, 16, none⟩) (all.length - 16) (cap - 16) ∧ w.ownsRow B 5 1 (.slice (some ⟨g, 0, none⟩) all.length cap) all.length (byteV all) ∧ 16 < all.length ∧ k.da = all.drop 16 ∧ ¬ O g ∧ ∀ y ∈ all, y < 256
/-- A list of what the disk is asked for. -/
structure AsksAt (w : World) (B : Nat) (O : Nat → Prop) (av : Value) (l : List (Ak × Value)) : Prop where
  row : w.ownsRow B 81 5 av l.length (askL l)
  dat : ∀ x ∈ l, AkAt w B O x.1 x.2
  far : ∀ g, av.ownBlock = some g → ¬ O g
theorem AkAt.one {w : World} {B : Nat} {O : Nat → Prop} {k : Ak} {dv : Value} (h : AkAt w B O k dv) : dv.oneCell' = true := by
  rcases h.ex with ⟨_, rfl⟩ | ⟨_, _, _, rfl, _⟩ <;> rfl
theorem AkAt.keep {w W : World} {B : Nat} {O O' : Nat → Prop} {k : Ak} {dv : Value} (h : AkAt w B O k dv) (hk : ∀ g cs, RowAt w g cs 5 → ¬ O g → W.heap[g]? = w.heap[g]? ∧ ¬ O' g) : AkAt W B O' k dv := by
  rcases h.ex with h | ⟨g, cap, all, e1, e2, e3, e4, e5, e6⟩
  · exact ⟨.inl h⟩
  · obtain ⟨g', cap', cur, hve, _, _, _, hr, _, _⟩ := own_row e2 (by omega)
    injection hve with q1 q2 q3
    cases q1
    obtain ⟨k1, k2⟩ := hk g cur hr e5
    exact ⟨.inr ⟨g, cap, all, e1, own_at e2 (fun x hx => by cases hx; exact k1), e3, e4, k2, e6⟩⟩
theorem AsksAt.keep {w W : World} {B : Nat} {O O' : Nat → Prop} {av : Value} {l : List (Ak × Value)} (h : AsksAt w B O av l) (hk : ∀ g cs t, RowAt w g cs t → (t = 5 ∨ t = 81) → ¬ O g → W.heap[g]? = w.heap[g]? ∧ ¬ O' g) : AsksAt W B O' av l := by
  have hrow : ∀ g, av.ownBlock = some g → ∃ cs, RowAt w g cs 81 := fun g hg => by
    rcases h.row.2 with ⟨h1, _⟩ | ⟨g', cap, cur, h1, _, h3, _⟩
    · rw [h1] at hg; cases hg
    · rw [h1] at hg; cases hg; exact ⟨cur, h3⟩
  refine ⟨own_at h.row (fun g hg => ?_), fun x hx => (h.dat x hx).keep (fun g cs hr hn => hk g cs _ hr (.inl rfl) hn), fun g hg => ?_⟩
  · obtain ⟨cs, hr⟩ := hrow g hg
    exact (hk g cs _ hr (.inr rfl) (h.far g hg)).1
  · obtain ⟨cs, hr⟩ := hrow g hg
    exact (hk g cs _ hr (.inr rfl) (h.far g hg)).2
theorem AsksAt.bl {w W : World} {B : Nat} {O : Nat → Prop} {av : Value} {l : List (Ak × Value)} (h : AsksAt w B O av l) (hb : Below w.heap.size w W) : AsksAt W B O av l :=
  h.keep (fun g cs t hr _ hn => ⟨hb.block g hr.lt, hn⟩)
theorem AsksAt.went {w W : World} {B Bm : Nat} {O O' : Nat → Prop} {av : Value} {l : List (Ak × Value)} (h : AsksAt w B O av l) (hw : Went Bm O O' w W) : AsksAt W B O' av l :=
  h.keep (fun g cs t hr _ hn => ⟨hw.other g hr.lt hn, hw.no hr.lt hn⟩)
theorem in_ty {w : World} {B : Nat} {O : Nat → Prop} {v : Value} {l : List (Rq × Value)} {g : Nat} {cs : Array Value} {t : TypeId} (h : InAt w B O v l) (hr : RowAt w g cs t) (ht : t ≠ 102) : v.ownBlock ≠ some g := fun e => ht (own_ty h.row e hr)
theorem AsksAt.went1 {w W : World} {B Bi Bm : Nat} {O O' : Nat → Prop} {v v' av : Value} {l : List (Ak × Value)} {li : List (Rq × Value)} (h : AsksAt w B O av l) (hI : InAt w Bi O v li) (hw : Went Bm (Or1 O v) (Or1 O' v') w W) : AsksAt W B O' av l :=
  h.keep (fun g cs t hr ht hn => by
    have hne : v.ownBlock ≠ some g := in_ty hI hr (by rcases ht with rfl | rfl <;> decide)
    have hno : ¬ Or1 O v g := fun e => e.elim hn hne
    exact ⟨hw.other g hr.lt hno, fun k => hno (hw.own g hr.lt (.inl k))⟩)
theorem AsksAt.only {w W : World} {B g : Nat} {O : Nat → Prop} {av : Value} {l : List (Ak × Value)} {cs : Array Value} {t : TypeId} (h : AsksAt w B O av l) (ho : Only g w W) (hr : RowAt w g cs t) (h1 : t ≠ 5) (h2 : t ≠ 81) : AsksAt W B O av l :=
  h.keep (fun x cx tx hx ht hn => ⟨ho.row x (fun e => by
    subst e
    have := hr.symm.trans hx
    simp at this
    rcases ht with q | q
    · exact h1 (this.2.trans q)
    · exact h2 (this.2.trans q)), hn⟩)
theorem own_grow {w W : World} {B e sz n : Nat} {v u : Value} {xs : List Value} {cs : Array Value} {t : TypeId} (h : w.ownsRow B e sz u n xs) (hg : w.grownBy W v.ownBlock) (hr : ∀ g, v.ownBlock = some g → ∃ cs, RowAt w g cs t) (ht : t ≠ e) : W.ownsRow B e sz u n xs :=
  own_at h (fun g hgu => hg.block g (h.lt g hgu).2 (fun k => by
    obtain ⟨cs, hr⟩ := hr g k.symm
    exact ht (own_ty h hgu hr)))
theorem InAt.rowT {w : World} {B : Nat} {O : Nat → Prop} {v : Value} {l : List (Rq × Value)} (h : InAt w B O v l) : ∀ g, v.ownBlock = some g → ∃ cs, RowAt w g cs 102 := fun g hg => by
  rcases h.row.2 with ⟨h1, _⟩ | ⟨g', cap, cur, h1, _, h3, _⟩
  · rw [h1] at hg; cases hg
  · rw [h1] at hg; cases hg; exact ⟨cur, h3⟩
/-- One request more. -/
theorem InAt.app {w W : World} {B : Nat} {O : Nat → Prop} {v v' wv : Value} {l : List (Rq × Value)} {q : Rq} (h : InAt w B O v l) (hr : W.ownsRow B 102 6 v' (l.length + 1) (reqL (l ++ [(q, wv)]))) (hg : w.grownBy W v.ownBlock) (hbk : v'.ownBlock = v.ownBlock ∨ v'.ownBlock = some w.heap.size) (hO : ∀ x, O x → x < w.heap.size)
    (hw : w.ownsRow B 103 3 wv q.l.length (segL q.l)) (hwn : ∀ g, wv.ownBlock = some g → ¬ O g) : InAt W B O v' (l ++ [(q, wv)]) := by
  refine ⟨by rw [List.length_append]; exact hr, fun x hx => ?_, fun g e => ?_, fun x hx g e => ?_⟩
  · rcases List.mem_append.1 hx with h1 | h1
    · exact own_grow (cs := #[]) (h.own x h1) hg h.rowT (by decide)
    · rw [List.mem_singleton.1 h1]; exact own_grow (cs := #[]) hw hg h.rowT (by decide)
  · rcases hbk with k | k
    · exact h.far g (k ▸ e)
    · rw [k] at e; cases e; exact fun k => absurd (hO _ k) (by omega)
  · rcases List.mem_append.1 hx with h1 | h1
    · exact h.fars x h1 g e
    · rw [List.mem_singleton.1 h1] at e; exact hwn g e
theorem went_app {B Bi : Nat} {O O1 : Nat → Prop} {w W W' : World} {v v' : Value} (h : Went B O O1 w W) (hg : W.grownBy W' v.ownBlock) (hbk : v'.ownBlock = v.ownBlock ∨ v'.ownBlock = some W.heap.size) (hv : ∀ g, v.ownBlock = some g → Bi ≤ g) (hB : B ≤ Bi) (hB2 : B ≤ w.heap.size) : Went B (Or1 O v) (Or1 O1 v') w W' :=
  ⟨grow_below h.below hg (Nat.le_trans hB2 h.size) (fun x hx => Nat.le_trans hB (hv x hx)), Nat.le_trans h.size hg.size,
   fun x hx hn => (hg.block x (Nat.lt_of_lt_of_le hx h.size) (fun k => hn (.inr k.symm))).trans (h.other x hx (fun e => hn (.inl e))),
   fun x hx e => by
    rcases e with e | e
    · exact .inl (h.own x hx e)
    · rcases hbk with k | k
      · exact .inr (k ▸ e)
      · rw [k] at e; cases e; exact absurd h.size (by omega)⟩
theorem went_onlyO {B g : Nat} {O O1 : Nat → Prop} {w w1 w2 : World} (h : Went B O O1 w w1) (ho : Only g w1 w2) (hg : w.heap.size ≤ g) (hB : B ≤ g) : Went B O O1 w w2 := h.only ho hg hB
theorem in_seg_ne {w : World} {B g : Nat} {O : Nat → Prop} {v : Value} {l : List (Rq × Value)} {x : Rq × Value} {cs : Array Value} (h : InAt w B O v l) (hx : x ∈ l) (e : x.2.ownBlock = some g) (hr : RowAt w g cs 53) : False := absurd (own_ty (h.own x hx) e hr) (by decide)
end Go.Proofs.YtaaiockiojejeaaGreatDoor
namespace Go.Proofs.YtaaiockiojejeaaGreatDoor
open Go.RowKit
set_option linter.unusedVariables false
set_option linter.unusedSimpArgs false

theorem own_askX {w : World} {B g : Nat} {k k' : Ak} {u : Value} (hr : RowAt w g (k.c u) 81) (hB : B ≤ g) (hk : k.c u = k'.c u) : w.ownsRow B 81 5 (.slice (some ⟨g, 0, none⟩) 1 1) [(k', u)].length (askL [(k', u)]) := by
  refine ⟨by rw [askL_len], .inr ⟨g, 1, k.c u, rfl, hB, hr, Nat.le_refl _, by decide, rfl, ?_⟩⟩
  rw [askL_one, hk]
  rfl
/-- How far the next number has come. -/
def nxM (SB nx k : Nat) (w : World) : Nat := match w.cell? ⟨SB, 23, none⟩ with
  | some (.int .u32 z) => k - (z.toNat + 4294967296 - nx) % 4294967296
  | _ => 0
theorem nxM_at {w : World} {SB nx k j t : Nat} {s : Bk} {v : Value} (h : RowAt w SB (({ s with nx := (nx + j) % 4294967296 } : Bk).c v) t) (hn : nx < 4294967296) (hj : j < 4294967296) : nxM SB nx k w = k - j := by
  unfold nxM
  rw [h.cell 23, Bk.at23]
  show k - ((((nx + j) % 4294967296 : Nat) : Int).toNat + 4294967296 - nx) % 4294967296 = k - j
  rw [Int.toNat_natCast]
  congr 1
  omega
theorem u32_mod (n : Nat) : IntKind.u32.wrap (n : Int) = ((n % 4294967296 : Nat) : Int) := by rw [IntKind.wrap_u32]; omega
theorem bs_req (q : Rq) (a : Option Addr) (n c : Nat) : BuiltR Tryz.prog 102 1 [(0, .agg (q.c (.slice a n c)))] (q.c (.slice a n c)) := ⟨by kernel_rfl⟩
theorem bs_ask (q : Ak) (a : Option Addr) (n c : Nat) : BuiltR Tryz.prog 81 1 [(0, .agg (q.c (.slice a n c)))] (q.c (.slice a n c)) := ⟨by kernel_rfl⟩
end Go.Proofs.YtaaiockiojejeaaGreatDoor
namespace Go.Proofs.YtaaiockiojejeaaGreatDoor
open Go.RowKit Go.Shelf
set_option linter.unusedVariables false

attribute [local go_sem] Oper.semAt_some
/-- The number of what has come. -/
def acc8 (pre : List Pair) : Nat := pre.foldl (fun s x => s * 256 % 18446744073709551616 ||| x.2.toNat) 0
theorem acc8_snoc (pre : List Pair) (x : Pair) : acc8 (pre ++ [x]) = (acc8 pre * 256 % 18446744073709551616 ||| x.2.toNat) := by simp [acc8]
theorem acc8_lt (pre : List Pair) : acc8 pre < 18446744073709551616 := by
  rcases List.eq_nil_or_concat pre with rfl | ⟨l, x, rfl⟩
  · decide
  · rw [List.concat_eq_append, acc8_snoc]
    have : x.2.toNat < 256 := x.2.toNat_lt
    exact Nat.or_lt_two_pow (n := 64) (Nat.mod_lt _ (by decide)) (by omega)
theorem acc8_arith (pre : List Pair) (x : Pair) : bits .or .u64 ((acc8 pre : Int) * 256 % 18446744073709551616) (x.2.toNat : Int) = ((acc8 (pre ++ [x]) : Nat) : Int) := by
  rw [acc8_snoc]
  have h1 : ((acc8 pre : Int) * 256 % 18446744073709551616) = ((acc8 pre * 256 % 18446744073709551616 : Nat) : Int) := by simp
  have : x.2.toNat < 256 := x.2.toNat_lt
  rw [h1, u64_or_nat _ _ (Nat.mod_lt _ (by decide)) (by omega)]
/-- What has come of bytes gone over backwards is their number. -/
theorem acc8_nm (l : List Nat) (hl : ∀ y ∈ l, y < 256) (h8 : l.length ≤ 8) : acc8 (upto (downAt (fun j => UInt8.ofNat ((l[j]?).getD 0)) l.length) l.length) = nmL l := by
  have key : ∀ k, k ≤ l.length → acc8 (upto (downAt (fun j => UInt8.ofNat ((l[j]?).getD 0)) l.length) k) = nmL (l.drop (l.length - k)) ∧ nmL (l.drop (l.length - k)) < 256 ^ k := by
    intro k
    induction k with
    | zero => intro _; rw [Nat.sub_zero, List.drop_length]; exact ⟨rfl, by decide⟩
    | succ k ih =>
      intro hk
      obtain ⟨i1, i2⟩ := ih (by omega)
      have hj : l.length - (k + 1) < l.length := by omega
      have hd : l.drop (l.length - (k + 1)) = l[l.length - (k + 1)] :: l.drop (l.length - k) := by
        rw [List.drop_eq_getElem_cons hj, show l.length - (k + 1) + 1 = l.length - k by omega]
      have hy := hl _ (List.getElem_mem hj)
      have hv : (downAt (fun j => UInt8.ofNat ((l[j]?).getD 0)) l.length k).2.toNat = l[l.length - (k + 1)] := by
        show (UInt8.ofNat ((l[l.length - 1 - k]?).getD 0)).toNat = _
        rw [show l.length - 1 - k = l.length - (k + 1) by omega, List.getElem?_eq_getElem hj]
        show (UInt8.ofNat l[l.length - (k + 1)]).toNat = _
        simp; omega
      have hk7 : (256 : Nat) ^ k ≤ 256 ^ 7 := Nat.pow_le_pow_right (by decide) (by omega)
      have h7 : (256 : Nat) ^ 7 = 72057594037927936 := by decide
      rw [upto_succ, acc8_snoc, hv, i1, hd]
      have hm : nmL (l.drop (l.length - k)) * 256 % 18446744073709551616 = nmL (l.drop (l.length - k)) * 256 := Nat.mod_eq_of_lt (by omega)
      rw [hm, show nmL (l.drop (l.length - k)) * 256 = nmL (l.drop (l.length - k)) * 2 ^ 8 from rfl, ← Nat.shiftLeft_eq, ← Nat.shiftLeft_add_eq_or_of_lt (by omega)]
      simp only [nmL, Nat.shiftLeft_eq]
      refine ⟨by omega, ?_⟩
      rw [Nat.pow_succ]
      have := Nat.mul_le_mul_left 256 (show nmL (l.drop (l.length - k)) + 1 ≤ 256 ^ k by omega)
      omega
  have := (key l.length (Nat.le_refl _)).1
  rwa [Nat.sub_self, List.drop_zero] at this
set_option maxRecDepth 100000 in
set_option maxHeartbeats 2000000 in
theorem number_wide (b off len cap : Nat) (g : Nat → UInt8) (hmax : len ≤ 140737488351232) (w : World) (hb : b < w.heap.size)
    (hc : ∀ j, j < len → w.cell? ⟨b, off + j, none⟩ = some (.int .u8 ((g j).toNat : Int))) :
    CallsIn Fence.wide 3 Tryz.prog 73 #[.slice (some ⟨b, off, none⟩) len cap] w fun e W' => e = .returned (.int .u64 (acc8 (upto (downAt g len) len) : Nat)) ∧ Below w.heap.size w W' := by
  have h1 : 1 ≤ 3 := by omega
  have hro : Fence.wide.round = none := rfl
  refine callsIn_of_wp_marks Tryz.func73 rfl trivial ?_ hro
  simp only [Tryz.ntmps73, List.size_toArray, List.length_cons, List.length_nil, Nat.reduceAdd, Nat.reduceSub, Array.replicate_succ, Array.replicate_zero, List.push_toArray, List.append_toArray, List.nil_append, List.cons_append]
  gi_wp2_with (first | (refine ⟨trivial, ?_⟩; gi_at_call 108; refine (backward_in Fence.wide _ trivial hro _ _ _ _).mono ?_; rintro e w' ⟨rfl, rfl⟩))
  have bS := Boxed.new w 108 (.int .u64 0)
  have bN := Boxed.new (w.alloc (.cells #[.int .u64 0] 108)) 37 (.slice (some ⟨b, off, none⟩) len cap)
  rw [World.size_alloc] at bN
  have hB0 : Below w.heap.size w ((w.alloc (.cells #[.int .u64 0] 108)).alloc (.cells #[.slice (some ⟨b, off, none⟩) len cap] 37)) := ((Below.refl _ w).alloc (Nat.le_refl _) _).alloc (by simp) _
  refine wpIn_rangeFunc_ownG hro h1 (gf := 133) (lb := #[.pointer (some ⟨w.heap.size + 1, 0, none⟩)]) rfl trivial (enters_of Tryz.func133 (by kernel_rfl) rfl)
    (backward_stops Fence.wide (3 - 1) trivial hro (by omega) (w.heap.size + 1) w.heap.size b off len cap g (by omega) hb _ (by simp) (by simp; omega) bN.cell
      (fun j hj => (hB0.cell (p := ⟨b, off + j, none⟩) hb).trans (hc j hj))) KeepB.trans (KeepB.put (by simp; omega) (by simp)) (Below.refl _ _) (fun _ => rfl)
    (fun pre W => (W.cell? ⟨w.heap.size, 0, none⟩ = some (.int .u64 (acc8 pre : Nat)) ∧ W.frozen? ⟨w.heap.size, 0, none⟩ = false) ∧ Below w.heap.size w W)
    (fun _ _ _ => False)
    (OwnFrom.and (Own.from (fun s A B row hs hg hr => ⟨cell_kept hs.1 hg hr, (frozen_kept hs.1 hg hr).trans hs.2⟩) _) (ownFrom_below (Nat.le_refl _) (by simp; omega)))
    (fun _ _ _ _ _ hs _ _ => hs)
    ⟨⟨(bS.alloc _).cell, (bS.alloc _).frozen⟩, hB0⟩
    (fun x => { tmps := #[.slice (some ⟨b, off, none⟩) len cap, undef, .int .u64 0, .pointer (some ⟨w.heap.size, 0, none⟩), undef, .int .u8 (x.2.toNat : Int), .slice (some ⟨b, off, none⟩) len cap, .func (.func 133) #[] #[.pointer (some ⟨w.heap.size + 1, 0, none⟩)], .int .i64 (x.1 : Int), .int .u8 (x.2.toNat : Int), undef, undef, undef, undef, undef, undef], defers := [] }) ?assign ?body ?done ?stop
  case assign =>
    intro l x W K hK
    gi_wp2
    exact hK
  case body =>
    rintro l pre x W ⟨⟨hcv, hf⟩, hB⟩ _
    have hlt := acc8_lt pre
    have hx : x.2.toNat < 256 := x.2.toNat_lt
    have HA : Hid (_) := acc8_arith pre x
    generalize acc8 pre = y at *
    clear hc
    gi_wp2
    exact ⟨(KeepsOthers.setCell _ _ _).from _, ⟨(Below.refl w.heap.size W).setCell (p := ⟨w.heap.size, 0, none⟩) (Nat.le_refl _) _, heap_setCell_other _ _ _ _ (by simp)⟩,
      ⟨by rw [← HA.out]; exact World.cell?_setCell_same' _ _ _ (by rw [hcv]; rfl), by rw [World.frozen?_setCell]; exact hf⟩, hB.setCell (p := ⟨w.heap.size, 0, none⟩) (Nat.le_refl _) _⟩
  case done =>
    rintro D ys W hD rfl ⟨⟨hcv, _⟩, hB⟩ hK
    gi_wp2
    refine ⟨by simp, .inl ⟨_, _, rfl, run_takeDeferred hK, ?_⟩⟩
    refine ⟨.int .u64 (acc8 (upto (downAt g len) len) : Nat), ?_, rfl, hB.trans (belowK_b (w := w) (Nat.le_refl _) W D _ _ (by simp at hD; omega) hK rfl rfl)⟩
    simp [results, Tryz.results73, go_sem]
  case stop =>
    rintro D c pre W _ _ h _
    exact h.elim
theorem number_any (l : List Nat) (hl : ∀ y ∈ l, y < 256) (h8 : l.length ≤ 8) (b off cap : Nat) (w : World) (hb : b < w.heap.size) (hc : ∀ j (h : j < l.length), w.cell? ⟨b, off + j, none⟩ = some (.int .u8 (l[j] : Nat))) :
    Calls Tryz.prog 73 #[.slice (some ⟨b, off, none⟩) l.length cap] w fun e w' => e = .returned (.int .u64 (nmL l : Nat)) ∧ Below w.heap.size w w' := by
  rw [← acc8_nm l hl h8]
  refine callsIn_wide.1 (number_wide b off l.length cap _ (by omega) w hb (fun j hj => ?_))
  rw [hc j hj]
  have := hl _ (List.getElem_mem hj)
  rw [List.getElem?_eq_getElem hj]
  show _ = some (Value.int .u8 (((UInt8.ofNat l[j]).toNat : Nat) : Int))
  rw [show (UInt8.ofNat l[j]).toNat = l[j] by simp; omega]
end Go.Proofs.YtaaiockiojejeaaGreatDoor
