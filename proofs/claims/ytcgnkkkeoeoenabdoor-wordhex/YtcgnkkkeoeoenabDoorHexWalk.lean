/-
  What word.Hex answers of any number: its eight digits; nothing that lay is turned.
-/
import Derived.Test.YtcgnkkkeoeoenabDoorHex
namespace Go.Proofs.YtcgnkkkeoeoenabDoor
open Go.RowKit Go.Shelf
set_option linter.unusedVariables false
attribute [local go_sem] Oper.semAt_some

def cellsU (l : List UInt8) : List Value := l.map fun b => Value.int .u8 (b.toNat : Int)

/-- The digits behind some rounds, and how many rounds there were. -/
def rowStep (v : Nat) (st : List UInt8 × Nat) (x : PairL 8) : List UInt8 × Nat := (st.1.set x.1.1 (digs.getD (v / 16 ^ st.2 % 16) 0), st.2 + 1)
def rowS (v : Nat) (pre : List (PairL 8)) : List UInt8 × Nat := pre.foldl (rowStep v) ([0, 0, 0, 0, 0, 0, 0, 0], 0)
theorem rowS_snoc (v : Nat) (pre : List (PairL 8)) (x : PairL 8) : rowS v (pre ++ [x]) = rowStep v (rowS v pre) x := by simp [rowS]
theorem rowS_snd (v : Nat) : ∀ (n : Nat) (pre : List (PairL 8)), pre.length = n → (rowS v pre).2 = n ∧ (rowS v pre).1.length = 8 := by
  intro n
  induction n with
  | zero => intro pre h; have : pre = [] := List.eq_nil_of_length_eq_zero h; subst this; exact ⟨rfl, rfl⟩
  | succ n ih =>
    intro pre h
    rcases List.eq_nil_or_concat pre with rfl | ⟨l', c, rfl⟩
    · simp at h
    · rw [List.concat_eq_append] at h ⊢
      obtain ⟨e1, e2⟩ := ih l' (by simpa using h)
      rw [rowS_snoc]
      exact ⟨by simp [rowStep, e1], by simp [rowStep, e2]⟩

theorem rowS_all (v : Nat) (ys : List (PairL 8)) (h : ys.map (·.1.1) = downs 8 8) : (rowS v ys).1 = hexTo v 8 := by
  have hl : ys.length = 8 := by have := congrArg List.length h; simpa [downs] using this
  match ys, hl with
  | [y0, y1, y2, y3, y4, y5, y6, y7], _ =>
    simp [downs, List.range_succ] at h
    obtain ⟨h0, h1, h2, h3, h4, h5, h6, h7⟩ := h
    simp [rowS, rowStep, h0, h1, h2, h3, h4, h5, h6, h7, hexTo]

theorem and15 (y : Nat) (h : y < 4294967296) : bits .and .u32 (y : Int) 15 = ((y % 16 : Nat) : Int) := by
  have := u32_and_nat y 15 h (by decide)
  have e : y &&& 15 = y % 16 := Nat.and_two_pow_sub_one_eq_mod y 4
  rw [e] at this
  exact this
theorem run_dgs32 (k : Nat) (h : k < 16) (w : World) : (Instr.index 9 (.string dgs) (.int .u32 (k : Int))).run Tryd.prog w = .ok (.int .u8 ((digs.getD k 0).toNat : Int)) w := by
  have hi : 0 ≤ (k : Int) ∧ (k : Int) < (dgs.size : Int) := by rw [dgs_size]; omega
  rw [run_index_string w _ dgs _ _ Tryd.underlying9, dif_pos hi]
  have := dgs_at ⟨k, h⟩
  simp only [Int.toNat_natCast]
  simp only at this
  rw [this]

/-- What the loop's variables hold. -/
def HexI (w : World) (v : Nat) (pre : List (PairL 8)) (W : World) : Prop :=
  ((W.cell? ⟨w.heap.size, 0, none⟩ = some (.int .u32 (v / 16 ^ pre.length : Nat)) ∧ W.frozen? ⟨w.heap.size, 0, none⟩ = false) ∧ W.heap[w.heap.size + 1]? = some (.cells (cellsU (rowS v pre).1).toArray 36 (0, 0))) ∧ Below w.heap.size w W

theorem row_kept {A B : World} {row : Option Nat} {k : Nat} {cs : Array Value} {t : TypeId} {fr : Nat × Nat} (h : A.heap[k]? = some (.cells cs t fr)) (hg : A.grownBy B row) (hr : ∀ r, row = some r → ∃ o : Obj, A.heap[r]? = some o ∧ o.isCells = false) : B.heap[k]? = some (.cells cs t fr) := by
  rw [hg.block k (Array.getElem?_eq_some_iff.1 h).1 (fun e => by
    obtain ⟨o, ho, hc⟩ := hr k e.symm
    rw [h] at ho
    cases ho
    simp [Obj.isCells] at hc)]
  exact h

set_option maxRecDepth 100000 in
set_option maxHeartbeats 4000000 in
theorem hex_wide (v : Nat) (hv : v < 4294967296) (w : World) :
    CallsIn Fence.wide 3 Tryd.prog 6 #[.int .u32 v] w fun e W' => e = .returned (.string ⟨(hexTo v 8).toArray⟩) ∧ Below w.heap.size w W' := by
  have h1 : 1 ≤ 3 := by omega
  have hro : Fence.wide.round = none := rfl
  refine callsIn_of_wp_marks Tryd.func6 rfl trivial ?_ hro
  simp only [Tryd.ntmps6, List.size_toArray, List.length_cons, List.length_nil, Nat.reduceAdd, Nat.reduceSub, Array.replicate_succ, Array.replicate_zero, List.push_toArray, List.append_toArray, List.nil_append, List.cons_append]
  generalize hdg : ByteArray.mk #[48, 49, 50, 51, 52, 53, 54, 55, 56, 57, 97, 98, 99, 100, 101, 102] = dg
  have hdg' : dg = dgs := hdg.symm
  subst hdg'
  clear hdg
  gi_wp2_with (first | (refine ⟨trivial, ?_⟩; gi_at_call 11; refine (backward_in Fence.wide _ trivial hro _ _ _ _).mono ?_; rintro e w' ⟨rfl, rfl⟩))
  have hB0 : Below w.heap.size w (((w.alloc (.cells #[.int .u32 v] 22)).alloc (.cells #[.int .u8 0, .int .u8 0, .int .u8 0, .int .u8 0, .int .u8 0, .int .u8 0, .int .u8 0, .int .u8 0] 36)).alloc (.cells #[.slice (some ⟨w.heap.size + 1, 0, none⟩) 8 8] 40)) := (((Below.refl _ w).alloc (Nat.le_refl _) _).alloc (by simp) _).alloc (by simp; omega) _
  have bV := (((Boxed.new w 22 (.int .u32 v)).alloc (.cells #[.int .u8 0, .int .u8 0, .int .u8 0, .int .u8 0, .int .u8 0, .int .u8 0, .int .u8 0, .int .u8 0] 36))).alloc (.cells #[.slice (some ⟨w.heap.size + 1, 0, none⟩) 8 8] 40)
  have bN := Boxed.new ((w.alloc (.cells #[.int .u32 v] 22)).alloc (.cells #[.int .u8 0, .int .u8 0, .int .u8 0, .int .u8 0, .int .u8 0, .int .u8 0, .int .u8 0, .int .u8 0] 36)) 40 (.slice (some ⟨w.heap.size + 1, 0, none⟩) 8 8)
  rw [World.size_alloc, World.size_alloc] at bN
  have hrow0 : (((w.alloc (.cells #[.int .u32 v] 22)).alloc (.cells #[.int .u8 0, .int .u8 0, .int .u8 0, .int .u8 0, .int .u8 0, .int .u8 0, .int .u8 0, .int .u8 0] 36)).alloc (.cells #[.slice (some ⟨w.heap.size + 1, 0, none⟩) 8 8] 40)).heap[w.heap.size + 1]? = some (.cells #[.int .u8 0, .int .u8 0, .int .u8 0, .int .u8 0, .int .u8 0, .int .u8 0, .int .u8 0, .int .u8 0] 36 (0, 0)) := by
    rw [heap_alloc_old _ _ _ (by simp)]
    have := heap_alloc_new (w.alloc (.cells #[.int .u32 v] 22)) (.cells #[.int .u8 0, .int .u8 0, .int .u8 0, .int .u8 0, .int .u8 0, .int .u8 0, .int .u8 0, .int .u8 0] 36)
    rwa [World.size_alloc] at this
  have hsz0 : (((w.alloc (.cells #[.int .u32 v] 22)).alloc (.cells #[.int .u8 0, .int .u8 0, .int .u8 0, .int .u8 0, .int .u8 0, .int .u8 0, .int .u8 0, .int .u8 0] 36)).alloc (.cells #[.slice (some ⟨w.heap.size + 1, 0, none⟩) 8 8] 40)).heap.size = w.heap.size + 3 := by simp
  generalize (((w.alloc (.cells #[.int .u32 v] 22)).alloc (.cells #[.int .u8 0, .int .u8 0, .int .u8 0, .int .u8 0, .int .u8 0, .int .u8 0, .int .u8 0, .int .u8 0] 36)).alloc (.cells #[.slice (some ⟨w.heap.size + 1, 0, none⟩) 8 8] 40)) = W0 at *
  have hI0 : HexI w v [] W0 := ⟨⟨⟨by simpa using bV.cell, bV.frozen⟩, hrow0⟩, hB0⟩
  have hT0 : TypedB (w.heap.size + 1) 0 8 W0 := fun j hj => ⟨0, by
    rw [cell_of_row _ _ _ _ _ (0, 0) hrow0, Nat.zero_add]
    match j, hj with
    | 0, _ => rfl
    | 1, _ => rfl
    | 2, _ => rfl
    | 3, _ => rfl
    | 4, _ => rfl
    | 5, _ => rfl
    | 6, _ => rfl
    | 7, _ => rfl⟩
  refine wpIn_rangeFunc_ownG hro h1 (gf := 16) (lb := #[.pointer (some ⟨w.heap.size + 1 + 1, 0, none⟩)]) rfl trivial (enters_of Tryd.func16 (by kernel_rfl) rfl)
    (backwardT_stops Fence.wide (3 - 1) trivial hro (by omega) (w.heap.size + 1 + 1) (w.heap.size + 1) 0 8 8 (by omega) W0 (by omega) (by omega) bN.cell hT0) KeepT.trans (KeepT.put (by omega) (by omega)) (Below.refl _ _) (fun _ => rfl)
    (HexI w v)
    (fun _ _ _ => False)
    (OwnFrom.and (Own.from (fun s A B row hs hg hr => ⟨⟨cell_kept hs.1.1 hg hr, (frozen_kept hs.1.1 hg hr).trans hs.1.2⟩, row_kept hs.2 hg hr⟩) _) (ownFrom_below (Nat.le_refl _) (by omega)))
    (fun _ _ _ _ _ hs _ _ => hs)
    hI0
    (fun x => { tmps := #[.int .u32 v, .pointer (some ⟨w.heap.size, 0, none⟩), .string ⟨#[]⟩, .pointer (some ⟨w.heap.size + 1, 0, none⟩), .int .i64 (x.1.1 : Int), .slice (some ⟨w.heap.size + 1, 0, none⟩) 8 8, .func (.func 16) #[] #[.pointer (some ⟨w.heap.size + 1 + 1, 0, none⟩)], .int .i64 (x.1.1 : Int), .int .u8 (x.1.2.toNat : Int), undef, undef, undef, undef, undef, undef, undef, undef, undef], defers := [] }) ?assign ?body ?done ?stop
  case assign =>
    intro l x W K hK
    gi_wp2
    exact hK
  case body =>
    rintro l pre x W ⟨⟨⟨hcv, hf⟩, hrow⟩, hB⟩ hlen
    obtain ⟨hs2, hs1⟩ := rowS_snd v pre.length pre rfl
    have hx8 : x.1.1 < 8 := x.2
    have hci : x.1.1 < (cellsU (rowS v pre).1).length := by simp [cellsU, hs1, hx8]
    have hca : W.cell? ⟨w.heap.size + 1, x.1.1, none⟩ = some ((cellsU (rowS v pre).1)[x.1.1]) := by
      rw [cell_of_row _ _ _ _ _ (0, 0) hrow]
      simp [List.getElem?_eq_getElem hci]
    have hfa : W.frozen? ⟨w.heap.size + 1, x.1.1, none⟩ = false := frozen_of_row W _ _ _ _ hrow
    have HR := hide (heap_setCell_same W (w.heap.size + 1) x.1.1 _ _ (.int .u8 ((digs.getD (v / 16 ^ pre.length % 16) 0).toNat : Int)) hrow)
    have HS := hide (show ((cellsU (rowS v pre).1).toArray.setIfInBounds x.1.1 (.int .u8 ((digs.getD (v / 16 ^ pre.length % 16) 0).toNat : Int))) = (cellsU (rowS v (pre ++ [x])).1).toArray by rw [rowS_snoc, rowStep, hs2]; simp [cellsU, List.map_set])
    rw [HS.out] at HR
    have hs1' := (rowS_snd v (pre ++ [x]).length (pre ++ [x]) rfl).2
    have HL := hide hs1'
    have HV := hide (show v / 16 ^ pre.length / 16 = v / 16 ^ (pre ++ [x]).length by rw [List.length_append, Nat.div_div_eq_div_mul, ← Nat.pow_succ]; rfl)
    have hq : v / 16 ^ pre.length ≤ v := Nat.div_le_self _ _
    generalize (cellsU (rowS v pre).1)[x.1.1] = old at *
    generalize v / 16 ^ pre.length = q at *
    have h15 := and15 q (by omega)
    have hix := run_dgs32 (q % 16) (Nat.mod_lt _ (by decide))
    generalize digs.getD (q % 16) 0 = d at *
    generalize q % 16 = r at *
    have HRow := hide hrow
    have HBel := hide hB
    clear hrow hB HS hs1 hs2 hs1' hci bV bN hrow0 hI0 hT0 hB0
    gi_wp2
    have hrow2 := (heap_setCell_other (W.setCell ⟨w.heap.size + 1, x.1.1, none⟩ (.int .u8 (d.toNat : Int))) ⟨w.heap.size, 0, none⟩ (w.heap.size + 1) (.int .u32 ((q : Int) / 16)) (by simp)).trans HR.out
    refine ⟨((KeepsOthers.setCell _ _ _).trans (KeepsOthers.setCell _ _ _)).from _, ⟨?_, ?_⟩, ⟨⟨⟨?_, ?_⟩, hrow2⟩, ?_⟩⟩
    · rw [heap_setCell_other _ _ _ _ (by show w.heap.size + 1 + 1 ≠ w.heap.size; omega), heap_setCell_other _ _ _ _ (by show w.heap.size + 1 + 1 ≠ w.heap.size + 1; omega)]
    · intro _ j hj
      refine ⟨((rowS v (pre ++ [x])).1)[j]?.getD 0, ?_⟩
      rw [cell_of_row _ _ _ _ _ (0, 0) hrow2, Nat.zero_add]
      have hjl : j < (rowS v (pre ++ [x])).1.length := by rw [HL.out]; exact hj
      simp [cellsU, hjl]
    · rw [← HV.out]
      have e : (((q / 16 : Nat)) : Int) = (q : Int) / 16 := by simp
      rw [e]
      exact World.cell?_setCell_same' _ _ _ (by rw [cell_of_same (heap_setCell_other W ⟨w.heap.size + 1, x.1.1, none⟩ w.heap.size _ (by show w.heap.size ≠ w.heap.size + 1; omega)) 0, hcv]; rfl)
    · simp [World.frozen?_setCell, hf]
    · exact (HBel.out.setCell (p := ⟨w.heap.size + 1, x.1.1, none⟩) (by show w.heap.size ≤ w.heap.size + 1; omega) _).setCell (p := ⟨w.heap.size, 0, none⟩) (Nat.le_refl _) _
  case done =>
    rintro D ys W hD hys ⟨⟨⟨hcv, _⟩, hrow⟩, hB⟩ hK
    have hl8 := hexTo_length v 8
    rw [rowS_all v ys hys] at hrow
    have hconv := run_convert_bytes_back (P := Tryd.prog) W 40 9 5 ⟨w.heap.size + 1, 0, none⟩ 8 (hexTo v 8) Tryd.underlying40 Tryd.underlying5 Tryd.underlying9 (fun j hj => by
      rw [Addr.add_lit, Nat.zero_add, cell_of_row _ _ _ _ _ (0, 0) hrow]
      simp [cellsU, hj])
    rw [hl8] at hconv
    generalize hS : (ByteArray.mk (hexTo v 8).toArray) = S at *
    have HS := hide hS
    clear hS
    clear hrow hcv bV bN hrow0 hI0 hT0 hB0
    gi_wp2
    refine ⟨by simp, .inl ⟨_, _, rfl, run_takeDeferred hK, ?_⟩⟩
    exact ⟨_, results_tmp rfl _ _ _, by rw [HS.out]; rfl, hB.trans (belowK_b (w := w) (Nat.le_refl _) W D _ _ (by omega) hK rfl rfl)⟩
  case stop =>
    rintro D c pre W _ _ h _
    exact h.elim

theorem hex_any (v : Nat) (hv : v < 4294967296) (w : World) :
    Calls Tryd.prog 6 #[.int .u32 v] w fun e W' => e = .returned (.string ⟨(hexTo v 8).toArray⟩) ∧ Below w.heap.size w W' :=
  callsIn_wide.1 (hex_wide v hv w)
end Go.Proofs.YtcgnkkkeoeoenabDoor
