/-
  slices.IndexFunc and slices.DeleteFunc over a program's lines.
-/
import Derived.Test.YthfcodiplmodaaaGreatDoorAsPlaces
import Derived.Lib.SliceRun
namespace Go.Proofs.YthfcodiplmodaaaGreatDoor
open Go.RowKit
set_option linter.unusedVariables false

/-- What a closure tells of a line. -/
def Tells (f : Nat) (P : Ln → Bool) : Prop := ∀ (p : Ln) (W : World), p.2.length ≤ 70000 → Calls Tryz.prog f #[.agg #[.int .i64 (p.1 : Int), .string ⟨p.2.toArray⟩]] W fun e w' => e = .returned (.bool (P p)) ∧ Below W.heap.size W w'

def idxL (P : Ln → Bool) (ls : List Ln) : Int := match ls.findIdx? P with | some i => (i : Int) | none => -1

theorem findIdx_at (P : Ln → Bool) (ls : List Ln) (k : Nat) (p : Ln) (hp : ls[k]? = some p) (hno : ∀ q ∈ ls.take k, P q = false) (h : P p = true) : ls.findIdx? P = some k := by
  rw [List.findIdx?_eq_some_iff_getElem]
  obtain ⟨hk, he⟩ := List.getElem?_eq_some_iff.1 hp
  refine ⟨hk, by rw [he]; exact h, fun j hj => ?_⟩
  rw [Bool.not_eq_true]
  exact hno _ (List.mem_take_iff_getElem.2 ⟨j, by omega, rfl⟩)

/-- Between two rounds. -/
def IxRel (P : Ln → Bool) (ls : List Ln) (w : World) (iv : Value) (wr : World) : Prop :=
  ∃ k : Nat, iv = .int .i64 (k : Int) ∧ k ≤ ls.length ∧ (∀ p ∈ ls.take k, P p = false) ∧ Below w.heap.size w wr
def ixLeft (ls : List Ln) (iv : Value) : Nat := ls.length - (intOf iv).toNat

set_option maxHeartbeats 4000000 in
set_option maxRecDepth 100000 in
theorem index_any' (f : Nat) (P : Ln → Bool) (hf : Tells f P) (ef : ∀ args w, (callFunc f args).run Tryz.prog w = .ok (.enter f args) w) (ls : List Ln) (hls : ls.length ≤ 70000) (hln : ∀ p ∈ ls, p.2.length ≤ 70000 ∧ p.1 ≤ 100000) (g cap : Nat) (w : World) (hL : LinesAt g cap ls w) :
    Calls Tryz.prog 74 #[.slice (some ⟨g, 0, none⟩) ls.length cap, .func (.func f) #[] #[]] w fun e w' => e = .returned (.int .i64 (idxL P ls)) ∧ Below w.heap.size w w' := by
  have HT := hide hf
  have HL := hide hL
  clear hf hL
  go_enter Tryz.func74, Tryz.ntmps74
  go_wp2
  go_loopw [8] (fun iv wr => IxRel P ls w iv wr) (fun iv wr => ixLeft ls iv)
  case atStart => exact ⟨0, rfl, Nat.zero_le _, fun p h => by simp at h, Below.refl _ _⟩
  case round =>
    obtain ⟨k, rfl, hk, hno, hB⟩ := hrel
    have HN := hide hno
    have HB := hide hB
    clear hno hB
    by_cases hlt : k < ls.length
    · obtain ⟨⟨num, tx⟩, hp⟩ : ∃ p, ls[k]? = some p := ⟨_, List.getElem?_eq_getElem hlt⟩
      obtain ⟨hc1, hc2⟩ := (HL.out.keeps HB.out).cells k _ hp
      obtain ⟨htx, hnum⟩ := hln _ (List.mem_of_getElem? hp)
      simp only at hc1 hc2 htx hnum
      have HTk := hide (show ls.take (k + 1) = ls.take k ++ [(num, tx)] from by rw [List.take_add_one, hp]; rfl)
      have HC := hide (fun W => HT.out (num, tx) W htx)
      have HI := hide (fun (h : P (num, tx) = true) => show idxL P ls = (k : Int) from by
        unfold idxL
        rw [findIdx_at P ls k _ hp HN.out h])
      obtain ⟨b, hb⟩ : ∃ b, P (num, tx) = b := ⟨_, rfl⟩
      rw [hb] at HC HI
      have HPb := hide hb
      clear hp hb
      cases b with
      | true =>
        go_wp2_with (go_at_fn f; refine (HC.out _).mono ?_; rintro e w2 ⟨rfl, hx2⟩; have HB2 := hide (HB.out.trans (hx2.mono HB.out.size)); clear hx2)
        go_ret
        exact ⟨ret_int (HI.out (by trivial)).symm, HB2.out⟩
      | false =>
        go_wp2_with (go_at_fn f; refine (HC.out _).mono ?_; rintro e w2 ⟨rfl, hx2⟩; have HB2 := hide (HB.out.trans (hx2.mono HB.out.size)); clear hx2)
        go_roundw
        case rel => exact ⟨k + 1, by go_num, by omega, fun p h => by rw [HTk.out] at h; rcases List.mem_append.1 h with h | h; exact HN.out p h; obtain rfl := List.mem_singleton.1 h; exact HPb.out, HB2.out⟩
        case measure => unfold ixLeft; simp only [intOf]; omega
    · obtain rfl : k = ls.length := by omega
      go_wp2
      go_ret
      refine ⟨ret_int ?_, HB.out⟩
      have := HN.out
      rw [List.take_length] at this
      unfold idxL
      rw [List.findIdx?_eq_none_iff.2 this]

def dropL (P : Ln → Bool) (ls : List Ln) : List Ln := ls.filter fun p => !P p

theorem setCells_row {b : Nat} {t : TypeId} : ∀ (vs : List Value) (o : Nat) (w : World) (cur : Array Value), w.heap[b]? = some (.cells cur t (0, 0)) → ∃ cur', (w.setCells b o vs).heap[b]? = some (.cells cur' t (0, 0)) ∧ cur'.size = cur.size ∧ ∀ q, q ≤ o → cur'.toList.take q = cur.toList.take q
  | [], o, w, cur, h => ⟨cur, h, rfl, fun _ _ => rfl⟩
  | v :: r, o, w, cur, h => by
    obtain ⟨cur', h1, h2, h3⟩ := setCells_row r (o + 1) (w.setCell ⟨b, o, none⟩ v) _ (heap_setCell_same w b o _ _ v h)
    refine ⟨cur', h1, by rw [h2]; simp, fun q hq => ?_⟩
    rw [h3 q (by omega), Array.toList_setIfInBounds, List.take_set_of_le (by omega)]
theorem grown_refl (w : World) (row : Option Nat) : w.grownBy w row := ⟨rfl, rfl, rfl, Nat.le_refl _, fun _ _ _ => rfl⟩
theorem grown_trans {a b c : World} {row : Option Nat} (h : a.grownBy b row) (k : b.grownBy c row) : a.grownBy c row :=
  ⟨k.os.trans h.os, k.tape.trans h.tape, k.output.trans h.output, Nat.le_trans h.size k.size, fun i hi hr => (k.block i (Nat.lt_of_lt_of_le hi h.size) hr).trans (h.block i hi hr)⟩
theorem grown_below {a b : World} (row : Option Nat) (h : Below a.heap.size a b) : a.grownBy b row := ⟨h.os, h.tape, h.output, h.size, fun k hk _ => h.block k hk⟩
theorem grown_set (w : World) (b o : Nat) (v : Value) : w.grownBy (w.setCell ⟨b, o, none⟩ v) (some b) :=
  ⟨rfl, rfl, rfl, by simp, fun k _ hr => heap_setCell_other w ⟨b, o, none⟩ k v (fun e => hr (by rw [e]))⟩
theorem grown_sets (b : Nat) : ∀ (vs : List Value) (o : Nat) (w : World), w.grownBy (w.setCells b o vs) (some b)
  | [], o, w => grown_refl w _
  | v :: r, o, w => grown_trans (grown_set w b o v) (grown_sets b r (o + 1) _)

def zeroLine : Array Value := #[.int .i64 0, .string ⟨#[]⟩]
theorem run_clear_lines (w : World) (ty : TypeId) (b o n c : Nat) (hn : 0 < n) (hc : ∀ j, j < n * 2 → (w.cell? ⟨b, o + j, none⟩).isSome = true) (hf : ∀ j, j < n * 2 → w.frozen? ⟨b, o + j, none⟩ = false) :
    (Builtin.clear_ #[81] ty #[.slice (some ⟨b, o, none⟩) n c]).run Tryz.prog w = .ok (.tuple #[]) (w.setCells b o (Builtin.zeroCells zeroLine n).toList) := by
  have hl : (Builtin.zeroCells zeroLine n).toList.length = n * 2 := by simp [Builtin.zeroCells, zeroLine]
  have hst := run_storeCells_cells (P := Tryz.prog) b o (Builtin.zeroCells zeroLine n).toList 0 w (by rw [hl]; simpa using hc) (by rw [hl]; simpa using hf) (by
    intro v hv
    simp only [Builtin.zeroCells, zeroLine, Array.toList_map, Array.toList_range, List.mem_map] at hv
    obtain ⟨a, _, rfl⟩ := hv
    rcases (show a % 2 = 0 ∨ a % 2 = 1 by omega) with h | h
    · show Value.oneCell' (#[Value.int .i64 0, .string ⟨#[]⟩][a % 2]!) = true
      rw [h]; rfl
    · show Value.oneCell' (#[Value.int .i64 0, .string ⟨#[]⟩][a % 2]!) = true
      rw [h]; rfl)
  simp only [Nat.add_zero] at hst
  obtain ⟨m, rfl⟩ : ∃ m, n = m + 1 := ⟨n - 1, by omega⟩
  have hz : ∀ w, (zeroValue 88).run Tryz.prog w = .ok (.agg zeroLine) w := Tryz.zeroValue88
  simp [Builtin.clear_, run_underlying Tryz.underlying81, hz, Value.cells, hst]

/-- The row while lines are left out. -/
def DelRow (P : Ln → Bool) (ls : List Ln) (g cap i j : Nat) (W : World) : Prop :=
  ∃ cur, W.heap[g]? = some (.cells cur 88 (0, 0)) ∧ cur.size = cap * 2 ∧ ls.length ≤ cap ∧ (dropL P (ls.take j)).length = i ∧ cur.toList.take (i * 2) = lineCells (dropL P (ls.take j)) ∧
    ∀ t p, j ≤ t → ls[t]? = some p → cur[t * 2]? = some (.int .i64 (p.1 : Int)) ∧ cur[t * 2 + 1]? = some (.string ⟨p.2.toArray⟩)
theorem DelRow.keeps {P : Ln → Bool} {ls : List Ln} {g cap i j : Nat} {W W' : World} (h : DelRow P ls g cap i j W) (hb : Below W.heap.size W W') : DelRow P ls g cap i j W' := by
  obtain ⟨cur, h1, h2⟩ := h
  exact ⟨cur, block_keeps h1 hb, h2⟩
theorem drop_snoc (P : Ln → Bool) (ls : List Ln) (j : Nat) (p : Ln) (hp : ls[j]? = some p) : dropL P (ls.take (j + 1)) = dropL P (ls.take j) ++ (if P p = true then [] else [p]) := by
  unfold dropL
  rw [List.take_add_one, hp]
  cases h : P p <;> simp [h]
theorem DelRow.skip {P : Ln → Bool} {ls : List Ln} {g cap i j : Nat} {W : World} (h : DelRow P ls g cap i j W) (p : Ln) (hp : ls[j]? = some p) (hP : P p = true) : DelRow P ls g cap i (j + 1) W := by
  obtain ⟨cur, h1, h2, h3, h4, h5, h6⟩ := h
  have e := drop_snoc P ls j p hp
  rw [if_pos hP, List.append_nil] at e
  exact ⟨cur, h1, h2, h3, by rw [e]; exact h4, by rw [e]; exact h5, fun t q ht hq => h6 t q (by omega) hq⟩
theorem DelRow.step {P : Ln → Bool} {ls : List Ln} {g cap i j : Nat} {W : World} (h : DelRow P ls g cap i j W) (hij : i < j) (p : Ln) (hp : ls[j]? = some p) (hP : P p = false) :
    DelRow P ls g cap (i + 1) (j + 1) ((W.setCell ⟨g, i * 2, none⟩ (.int .i64 (p.1 : Int))).setCell ⟨g, i * 2 + 1, none⟩ (.string ⟨p.2.toArray⟩)) := by
  obtain ⟨cur, h1, h2, h3, h4, h5, h6⟩ := h
  have e := drop_snoc P ls j p hp
  rw [if_neg (by simp [hP])] at e
  have hj : j < ls.length := (List.getElem?_eq_some_iff.1 hp).1
  refine ⟨_, heap_setCell_same _ g (i * 2 + 1) _ _ _ (heap_setCell_same W g (i * 2) _ _ _ h1), by simp [h2], h3, by rw [e, List.length_append, h4]; rfl, ?_, fun t q ht hq => ?_⟩
  · rw [e, lineCells_snoc, ← h5, Array.toList_setIfInBounds, Array.toList_setIfInBounds]
    have hl : i * 2 + 1 < cur.toList.length := by rw [Array.length_toList, h2]; omega
    rw [show (i + 1) * 2 = i * 2 + 1 + 1 by omega, List.take_add_one, List.take_add_one, List.take_set_of_le (by omega), List.take_set_of_le (by omega)]
    simp [show i * 2 < cur.size by rw [h2]; omega, show i * 2 + 1 < cur.size by rw [h2]; omega]
  · obtain ⟨a1, a2⟩ := h6 t q (by omega) hq
    rw [Array.getElem?_setIfInBounds_ne (by omega), Array.getElem?_setIfInBounds_ne (by omega), Array.getElem?_setIfInBounds_ne (by omega), Array.getElem?_setIfInBounds_ne (by omega)]
    exact ⟨a1, a2⟩

theorem delRow_start {P : Ln → Bool} {ls : List Ln} {g cap k : Nat} {W : World} (h : LinesAt g cap ls W) (hk : ls.findIdx? P = some k) : DelRow P ls g cap k (k + 1) W ∧ k < ls.length := by
  obtain ⟨cur, h1, h2, h3, h4⟩ := h
  obtain ⟨hkl, hP, hno⟩ := List.findIdx?_eq_some_iff_getElem.1 hk
  have hp : ls[k]? = some ls[k] := List.getElem?_eq_getElem hkl
  have hd : dropL P (ls.take k) = ls.take k := by
    unfold dropL
    rw [List.filter_eq_self]
    intro p hp
    obtain ⟨j, hj, rfl⟩ := List.mem_take_iff_getElem.1 hp
    have := hno j (by omega)
    simpa using this
  have e := drop_snoc P ls k _ hp
  rw [if_pos hP, List.append_nil, hd] at e
  refine ⟨⟨cur, h1, h3, h2, by rw [e, List.length_take]; omega, ?_, fun t p ht hq => ?_⟩, hkl⟩
  · rw [e]
    have hc : (lineCells ls).take (k * 2) = lineCells (ls.take k) := by
      have : lineCells ls = lineCells (ls.take k) ++ lineCells (ls.drop k) := by unfold lineCells; rw [← List.flatMap_append, List.take_append_drop]
      rw [this, List.take_append_of_le_length (by rw [lineCells_length, List.length_take]; omega), List.take_of_length_le (by rw [lineCells_length, List.length_take]; omega)]
    rw [← hc, ← h4, List.take_take]
    congr 1
    omega
  · obtain ⟨e1, e2⟩ := lineCells_at ls t p hq
    have hl : t < ls.length := (List.getElem?_eq_some_iff.1 hq).1
    rw [← h4] at e1 e2
    rw [List.getElem?_take_of_lt (by omega)] at e1 e2
    rw [← Array.getElem?_toList, ← Array.getElem?_toList]
    exact ⟨e1, e2⟩
theorem DelRow.cells {P : Ln → Bool} {ls : List Ln} {g cap i j : Nat} {W : World} (h : DelRow P ls g cap i j W) (hij : i < j) (p : Ln) (hp : ls[j]? = some p) :
    (W.cell? ⟨g, j * 2, none⟩ = some (.int .i64 (p.1 : Int)) ∧ W.cell? ⟨g, j * 2 + 1, none⟩ = some (.string ⟨p.2.toArray⟩)) ∧ (∃ v, W.cell? ⟨g, i * 2, none⟩ = some v) ∧ (∃ v, W.cell? ⟨g, i * 2 + 1, none⟩ = some v) ∧ ∀ o, W.frozen? ⟨g, o, none⟩ = false := by
  obtain ⟨cur, h1, h2, h3, h4, h5, h6⟩ := h
  have hj : j < ls.length := (List.getElem?_eq_some_iff.1 hp).1
  refine ⟨?_, ?_, ?_, fun o => frozen_of_row W _ _ _ _ h1⟩
  · rw [cell_of_row _ _ _ _ _ (0, 0) h1, cell_of_row _ _ _ _ _ (0, 0) h1]
    exact h6 j p (Nat.le_refl _) hp
  · exact ⟨_, (cell_of_row _ _ _ _ _ (0, 0) h1).trans (Array.getElem?_eq_getElem (by rw [h2]; omega))⟩
  · exact ⟨_, (cell_of_row _ _ _ _ _ (0, 0) h1).trans (Array.getElem?_eq_getElem (by rw [h2]; omega))⟩

/-- Between two rounds. -/
def DelRel (P : Ln → Bool) (ls : List Ln) (g cap : Nat) (w : World) (iv jv : Value) (wr : World) : Prop :=
  ∃ i j : Nat, iv = .int .i64 (i : Int) ∧ jv = .int .i64 (j : Int) ∧ i < j ∧ j ≤ ls.length ∧ DelRow P ls g cap i j wr ∧ w.grownBy wr (some g)

set_option maxHeartbeats 4000000 in
set_option maxRecDepth 100000 in
theorem del_some (f : Nat) (P : Ln → Bool) (hf : Tells f P) (ef : ∀ args w, (callFunc f args).run Tryz.prog w = .ok (.enter f args) w) (ls : List Ln) (hls : ls.length ≤ 70000) (hln : ∀ p ∈ ls, p.2.length ≤ 70000 ∧ p.1 ≤ 100000) (g cap : Nat) (w : World) (hL : LinesAt g cap ls w) (k : Nat) (hk : ls.findIdx? P = some k) :
    Calls Tryz.prog 43 #[.slice (some ⟨g, 0, none⟩) ls.length cap, .func (.func f) #[] #[]] w fun e w' => e = .returned (.slice (some ⟨g, 0, none⟩) (dropL P ls).length cap) ∧ LinesAt g cap (dropL P ls) w' ∧ w.grownBy w' (some g) := by
  have HT := hide hf
  have HL := hide hL
  have HI := hide (fun w h => index_any' f P hf ef ls hls hln g cap w h)
  rw [show idxL P ls = (k : Int) from by unfold idxL; rw [hk]] at HI
  obtain ⟨hd0, hkl⟩ := delRow_start hL hk
  have HD0 := hide hd0
  have hg : g < w.heap.size := by obtain ⟨cur, h1, _⟩ := hL; exact (Array.getElem?_eq_some_iff.1 h1).1
  have hkne : ((k : Int) == -1) = false := by rw [beq_eq_false_iff_ne]; omega
  clear hf hL hd0
  go_enter Tryz.func43, Tryz.ntmps43
  go_wp2_with (go_at_call 74; refine (HI.out _ HL.out).mono ?_; rintro e w2 ⟨rfl, hx2⟩; have HB2 := hide hx2; clear hx2)
  go_loopw [5, 6] (fun iv jv wr => DelRel P ls g cap w iv jv wr) (fun iv jv wr => ixLeft ls jv)
  case atStart => exact ⟨k, k + 1, rfl, by go_num, by omega, by omega, HD0.out.keeps HB2.out, grown_below _ HB2.out⟩
  case round =>
    obtain ⟨i, j, rfl, rfl, hij, hj, hR, hG⟩ := hrel
    have HR := hide hR
    have HG := hide hG
    clear hR hG
    by_cases hlt : j < ls.length
    · obtain ⟨⟨num, tx⟩, hp⟩ : ∃ p, ls[j]? = some p := ⟨_, List.getElem?_eq_getElem hlt⟩
      obtain ⟨⟨hc1, hc2⟩, _⟩ := HR.out.cells hij _ hp
      obtain ⟨htx, hnum⟩ := hln _ (List.mem_of_getElem? hp)
      simp only at hc1 hc2 htx hnum
      have HC := hide (fun W => HT.out (num, tx) W htx)
      have HSk := hide (fun (h : P (num, tx) = true) => HR.out.skip _ hp h)
      have HPp := hide hp
      have hgr : g < wr.heap.size := Nat.lt_of_lt_of_le hg HG.out.size
      obtain ⟨b, hb⟩ : ∃ b, P (num, tx) = b := ⟨_, rfl⟩
      rw [hb] at HC
      have HPb := hide hb
      clear hp hb
      cases b with
      | true =>
        go_wp2_with (go_at_fn f; refine (HC.out _).mono ?_; rintro e w3 ⟨rfl, hx3⟩; have HB3 := hide (below_new hx3); clear hx3)
        go_roundw
        case rel => exact ⟨i, j + 1, rfl, by go_num, by omega, by omega, (HSk.out HPb.out).keeps HB3.out, grown_trans HG.out (grown_below _ HB3.out)⟩
        case measure => unfold ixLeft; simp only [intOf]; omega
      | false =>
        go_wp2_with (go_at_fn f; refine (HC.out _).mono ?_; rintro e w3 ⟨rfl, hx3⟩; have HB3 := hide (below_new hx3); have hb1 : w3.cell? ⟨wr.heap.size, 0, none⟩ = some (.int .i64 (num : Int)) := (hx3.cell (p := ⟨wr.heap.size, 0, none⟩) (by simp)).trans ((cell_of_row _ _ _ _ _ (0, 0) (heap_alloc_new wr _)).trans rfl); have hb2 : w3.cell? ⟨wr.heap.size, 1, none⟩ = some (.string ⟨tx.toArray⟩) := (hx3.cell (p := ⟨wr.heap.size, 1, none⟩) (by simp)).trans ((cell_of_row _ _ _ _ _ (0, 0) (heap_alloc_new wr _)).trans rfl); obtain ⟨_, ⟨v1, hv1⟩, ⟨v2, hv2⟩, hfz⟩ := (HR.out.keeps HB3.out).cells hij _ HPp.out; clear hx3)
        go_roundw
        case rel =>
          have hst := (HR.out.keeps HB3.out).step hij (num, tx) HPp.out HPb.out
          simp only at hst
          have hgs := grown_trans (grown_trans (grown_trans HG.out (grown_below (some g) HB3.out)) (grown_set w3 g (i * 2) (.int .i64 (num : Int)))) (grown_set (w3.setCell ⟨g, i * 2, none⟩ (.int .i64 (num : Int))) g (i * 2 + 1) (.string ⟨tx.toArray⟩))
          refine ⟨i + 1, j + 1, ?_, ?_, by omega, by omega, hst, hgs⟩
          · go_num
          · go_num
        case measure => unfold ixLeft; simp only [intOf]; omega
    · obtain rfl : j = ls.length := by omega
      obtain ⟨cur, r1, r2, r3, r4, r5, r6⟩ := HR.out
      rw [List.take_length] at r4 r5
      have hcl : ∀ ty, (Builtin.clear_ #[81] ty #[.slice (some ⟨g, i * 2, none⟩) (ls.length - i) (cap - i)]).run Tryz.prog wr = .ok (.tuple #[]) (wr.setCells g (i * 2) (Builtin.zeroCells zeroLine (ls.length - i)).toList) := fun ty =>
        run_clear_lines wr ty g (i * 2) (ls.length - i) (cap - i) (by omega) (fun t ht => by rw [cell_of_row _ _ _ _ _ (0, 0) r1, Array.getElem?_eq_getElem (by rw [r2]; omega)]; rfl) (fun t ht => frozen_of_row wr _ _ _ _ r1)
      obtain ⟨cur', q1, q2, q3⟩ := setCells_row (Builtin.zeroCells zeroLine (ls.length - i)).toList (i * 2) wr cur r1
      have hgs := grown_trans HG.out (grown_sets g (Builtin.zeroCells zeroLine (ls.length - i)).toList (i * 2) wr)
      generalize wr.setCells g (i * 2) (Builtin.zeroCells zeroLine (ls.length - i)).toList = V at *
      have HF := hide (show LinesAt g cap (dropL P ls) V ∧ (dropL P ls).length = i from ⟨⟨cur', q1, by rw [r4]; omega, by rw [q2]; exact r2, by rw [r4, q3 _ (Nat.le_refl _)]; exact r5⟩, r4⟩)
      have HGs := hide hgs
      clear r1 r2 r3 r4 r5 r6 q1 q2 q3 hgs
      have hcap2 : i < cap := by obtain ⟨cur, _, _, h3, _⟩ := HR.out; omega
      go_wp2
      go_ret
      refine ⟨?_, HF.out.1, HGs.out⟩
      rw [HF.out.2]
      rfl

set_option maxHeartbeats 1000000 in
set_option maxRecDepth 100000 in
theorem del_any (f : Nat) (P : Ln → Bool) (hf : Tells f P) (ef : ∀ args w, (callFunc f args).run Tryz.prog w = .ok (.enter f args) w) (ls : List Ln) (hls : ls.length ≤ 70000) (hln : ∀ p ∈ ls, p.2.length ≤ 70000 ∧ p.1 ≤ 100000) (g cap : Nat) (w : World) (hL : LinesAt g cap ls w) :
    Calls Tryz.prog 43 #[.slice (some ⟨g, 0, none⟩) ls.length cap, .func (.func f) #[] #[]] w fun e w' => e = .returned (.slice (some ⟨g, 0, none⟩) (dropL P ls).length cap) ∧ LinesAt g cap (dropL P ls) w' ∧ w.grownBy w' (some g) := by
  cases hk : ls.findIdx? P with
  | some k => exact del_some f P hf ef ls hls hln g cap w hL k hk
  | none =>
    have hd : dropL P ls = ls := by
      unfold dropL
      rw [List.filter_eq_self]
      intro p hp
      have := List.findIdx?_eq_none_iff.1 hk p hp
      simp [this]
    rw [hd]
    have HL := hide hL
    have HI := hide (fun w h => index_any' f P hf ef ls hls hln g cap w h)
    rw [show idxL P ls = -1 from by unfold idxL; rw [hk]] at HI
    clear hf hL hk hd
    go_enter Tryz.func43, Tryz.ntmps43
    go_wp2_with (go_at_call 74; refine (HI.out _ HL.out).mono ?_; rintro e w2 ⟨rfl, hx2⟩; have HB2 := hide hx2; clear hx2)
    go_ret
    exact ⟨rfl, HL.out.keeps HB2.out, grown_below _ HB2.out⟩

def isVoid (p : Ln) : Bool := List.isEmpty p.2
def isLab (p : Ln) : Bool := !List.isEmpty (labelL p.2)
set_option maxRecDepth 100000 in
theorem tells_void : Tells 73 isVoid := by
  intro p W hp
  obtain ⟨n, t⟩ := p
  unfold isVoid
  simp only
  go_enter Tryz.func73, Tryz.ntmps73
  go_wp2
  go_ret
  exact ⟨ret_bool (by cases t <;> rfl), below_box W _⟩
set_option maxRecDepth 100000 in
theorem tells_lab : Tells 44 isLab := by
  intro p W hp
  obtain ⟨n, t⟩ := p
  unfold isLab
  simp only at hp ⊢
  have HL := hide (fun w => label_any t (by omega) w)
  generalize labelL t = lb at *
  go_enter Tryz.func44, Tryz.ntmps44
  go_wp2_with (go_at_call 45; refine (HL.out _).mono ?_; rintro e w2 ⟨rfl, rfl⟩)
  go_ret
  exact ⟨ret_bool (by cases lb <;> rfl), below_box W _⟩
end Go.Proofs.YthfcodiplmodaaaGreatDoor
