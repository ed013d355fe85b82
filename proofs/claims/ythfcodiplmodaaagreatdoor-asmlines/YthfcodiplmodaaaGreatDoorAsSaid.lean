/-
  What asm.said answers.
-/
import Derived.Test.YthfcodiplmodaaaGreatDoorAsDel
import Derived.Test.YthfcodiplmodaaaGreatDoorAsParse
import Derived.Lib.TrimByte
import Derived.Lib.SplitLaws
import Derived.Shelf.Strings.FieldsFuncAny
namespace Go.Proofs.YthfcodiplmodaaaGreatDoor
open Go.RowKit
set_option linter.unusedVariables false

/-- The lines of a text, as they stand. -/
def piecesL (s : Str) : List Str := Lib.split s [10]
def shownL (t : Str) : Str := Lib.trimB (Lib.cut t [35]).1 32
def rawFrom : Nat → List Str → List Ln
  | _, [] => []
  | k, t :: r => (k + 1, shownL t) :: rawFrom (k + 1) r
def saidL (s : Str) : List Ln := dropL isVoid (rawFrom 0 (piecesL s))

theorem pieces_cells (s : Str) : (Lib.splitB ⟨#[10]⟩ 0 (Lib.countB ⟨s.toArray⟩ ⟨#[10]⟩) ⟨s.toArray⟩).map Value.string = (piecesL s).map fun t => Value.string ⟨t.toArray⟩ := by
  have h := Lib.splitB_data ⟨#[10]⟩ 0 (Lib.countB ⟨s.toArray⟩ ⟨#[10]⟩) ⟨s.toArray⟩
  have e : piecesL s = (Lib.splitB ⟨#[10]⟩ 0 (Lib.countB ⟨s.toArray⟩ ⟨#[10]⟩) ⟨s.toArray⟩).map (·.data.toList) := h.symm
  rw [e, List.map_map]
  rfl
theorem pieces_len (s : Str) : Lib.countB ⟨s.toArray⟩ ⟨#[10]⟩ + 1 = (piecesL s).length := by
  rw [← List.length_map (f := fun t => Value.string ⟨t.toArray⟩), ← pieces_cells, List.length_map]
  exact (Lib.splitB_all _ (by decide) 0 _ _ rfl).symm
theorem splitK_len (sep : Str) : ∀ (k : Nat) (s t : Str), t ∈ Lib.splitK sep 0 k s → t.length ≤ s.length
  | 0, s, t, h => by
    unfold Lib.splitK at h
    rw [List.mem_singleton.1 h]
    exact Nat.le_refl _
  | k + 1, s, t, h => by
    unfold Lib.splitK at h
    split at h
    · rw [List.mem_singleton.1 h]
      exact Nat.le_refl _
    · rcases List.mem_cons.1 h with h | h
      · rw [h, List.length_take]; omega
      · have := splitK_len sep k _ t h
        rw [List.length_drop] at this
        omega
theorem pieces_short (s : Str) (t : Str) (h : t ∈ piecesL s) : t.length ≤ s.length := splitK_len _ _ _ _ h
theorem pieces_few (s : Str) : (piecesL s).length ≤ s.length + 1 := by
  rw [← pieces_len]
  have := Lib.countB_le ⟨#[10]⟩ (by decide) _ ⟨s.toArray⟩ (Nat.le_refl _)
  simp [ByteArray.size] at this
  omega

/-- The pieces where they lie. -/
def PiecesAt (b : Nat) (ps : List Str) (W : World) : Prop := W.heap[b]? = some (.cells (ps.map fun t => Value.string ⟨t.toArray⟩).toArray 9 (0, 0))
theorem PiecesAt.cell {b : Nat} {ps : List Str} {W : World} (h : PiecesAt b ps W) (k : Nat) (t : Str) (hk : ps[k]? = some t) : W.cell? ⟨b, k, none⟩ = some (.string ⟨t.toArray⟩) := by
  rw [cell_of_row _ _ _ _ _ (0, 0) h]
  simp [hk]

theorem trim_below {w w' : World} (h : w' = w ∨ w' = w.drew) : Below w.heap.size w w' := by
  rcases h with rfl | rfl
  · exact Below.refl _ _
  · exact below_drewS w 1
theorem raw_snoc : ∀ (l : List Str) (k : Nat) (t : Str), rawFrom k (l ++ [t]) = rawFrom k l ++ [(k + l.length + 1, shownL t)]
  | [], k, t => rfl
  | x :: r, k, t => by
    show (k + 1, shownL x) :: rawFrom (k + 1) (r ++ [t]) = (k + 1, shownL x) :: (rawFrom (k + 1) r ++ [(k + (r.length + 1) + 1, shownL t)])
    rw [raw_snoc r (k + 1) t]
    congr 4
    omega
theorem raw_len : ∀ (l : List Str) (k : Nat), (rawFrom k l).length = l.length
  | [], _ => rfl
  | x :: r, k => by
    show (rawFrom (k + 1) r).length + 1 = _
    rw [raw_len r (k + 1)]
    rfl
theorem trim_le (s : Str) (c : UInt8) : (Lib.trimB s c).length ≤ s.length := by
  unfold Lib.trimB Lib.trimLeftB Lib.trimRightB
  have h1 := (List.dropWhile_sublist (· == c) (l := (s.reverse.dropWhile (· == c)).reverse)).length_le
  have h2 := (List.dropWhile_sublist (· == c) (l := s.reverse)).length_le
  rw [List.length_reverse] at h1 h2
  omega
theorem shown_le (t : Str) : (shownL t).length ≤ t.length := by
  have := trim_le (Lib.cut t [35]).1 32
  have := (cut_len t 35).1
  unfold shownL
  omega
theorem raw_mem : ∀ (l : List Str) (k : Nat) (p : Ln), p ∈ rawFrom k l → ∃ t ∈ l, p.2 = shownL t ∧ p.1 ≤ k + l.length
  | [], _, p, h => by simp [rawFrom] at h
  | x :: r, k, p, h => by
    rcases List.mem_cons.1 h with h | h
    · exact ⟨x, List.mem_cons_self, by rw [h], by rw [h]; simp⟩
    · obtain ⟨t, ht, h1, h2⟩ := raw_mem r (k + 1) p h
      exact ⟨t, List.mem_cons_of_mem _ ht, h1, by simp; omega⟩

theorem own_keeps {W W' : World} {B e sz n : Nat} {v : Value} {xs : List Value} (h : W.ownsRow B e sz v n xs) (hb : Below W.heap.size W W') : W'.ownsRow B e sz v n xs := by
  obtain ⟨h1, h2 | ⟨g, cap, cur, e1, e2, e3, e4⟩⟩ := h
  · exact ⟨h1, Or.inl h2⟩
  · exact ⟨h1, Or.inr ⟨g, cap, cur, e1, e2, block_keeps e3 hb, e4⟩⟩
theorem PiecesAt.keeps {b : Nat} {ps : List Str} {W W' : World} (h : PiecesAt b ps W) (hb : Below W.heap.size W W') : PiecesAt b ps W' := block_keeps h hb
theorem own_block_ge {W : World} {B e sz n : Nat} {v : Value} {xs : List Value} (h : W.ownsRow B e sz v n xs) (j : Nat) (hj : v.ownBlock = some j) : B ≤ j := by
  obtain ⟨h1, ⟨rfl, _⟩ | ⟨g, cap, cur, rfl, e2, _⟩⟩ := h
  · cases hj
  · cases hj; exact e2
theorem lines_of_own {W : World} {B n : Nat} {v : Value} {ls : List Ln} (h : W.ownsRow B 88 2 v n (lineCells ls)) (hn : ls.length = n) (hv : v ≠ .slice none 0 0) : ∃ g cap, v = .slice (some ⟨g, 0, none⟩) ls.length cap ∧ B ≤ g ∧ LinesAt g cap ls W := by
  obtain ⟨h1, ⟨h2, _⟩ | ⟨g, cap, cur, e1, e2, e3, e4, e5, e6, e7⟩⟩ := h
  · exact absurd h2 hv
  · subst hn
    exact ⟨g, cap, e1, e2, cur, e3, e4, e6, e7⟩

/-- Between two rounds. -/
def SdRel (ps : List Str) (w : World) (kv ov : Value) (wr : World) : Prop :=
  ∃ k : Nat, kv = .int .i64 (k : Int) ∧ k ≤ ps.length ∧ wr.ownsRow (w.heap.size + 1) 88 2 ov k (lineCells (rawFrom 0 (ps.take k))) ∧ PiecesAt w.heap.size ps wr ∧ Below w.heap.size w wr ∧ (ov = .slice none 0 0 → k = 0)
def sdLeft (ps : List Str) (kv : Value) : Nat := ps.length - (intOf kv).toNat

set_option maxHeartbeats 4000000 in
set_option maxRecDepth 100000 in
theorem said_any (s : Str) (hs : s.length ≤ 65536) (w : World) (hA : AsAt w) :
    Calls Tryz.prog 41 #[.string ⟨s.toArray⟩] w fun e w' => ∃ g cap, e = .returned (.slice (some ⟨g, 0, none⟩) (saidL s).length cap) ∧ w.heap.size ≤ g ∧ LinesAt g cap (saidL s) w' ∧ Below w.heap.size w w' := by
  rw [show saidL s = dropL isVoid (rawFrom 0 (piecesL s)) from rfl]
  obtain ⟨m, hm⟩ := hA.len
  have HS := hide (fun (w : World) (hm : w.cell? ⟨4, 0, none⟩ = some (.int .i64 m)) => Tryz.strings_Split ⟨s.toArray⟩ ⟨#[10]⟩ m w (by simp [ByteArray.size]; omega) hm (by decide))
  simp only [pieces_len, pieces_cells] at HS
  have HA := hide hA
  have HM := hide hm
  clear hA hm
  have HPS := hide (pieces_short s)
  have hlen : (piecesL s).length ≤ 65537 := by have := pieces_few s; omega
  have hpos : 1 ≤ (piecesL s).length := by have := pieces_len s; omega
  generalize hps : piecesL s = ps at *
  go_enter Tryz.func41, Tryz.ntmps41
  go_wp2_with (go_at_call 71; refine (HS.out _ HM.out).mono ?_; rintro e w2 ⟨rfl, rfl⟩)
  have hP0 : PiecesAt w.heap.size ps (w.alloc (.cells (ps.map fun t => Value.string ⟨t.toArray⟩).toArray 9)) := heap_alloc_new w _
  have hB0 := below_box w (.cells (ps.map fun t => Value.string ⟨t.toArray⟩).toArray 9)
  have hz0 : w.heap.size + 1 ≤ (w.alloc (.cells (ps.map fun t => Value.string ⟨t.toArray⟩).toArray 9)).heap.size := by simp
  have HP0 := hide hP0
  have HB0 := hide hB0
  have HZ0 := hide hz0
  generalize w.alloc (.cells (ps.map fun t => Value.string ⟨t.toArray⟩).toArray 9) = w1 at *
  clear hP0 hB0 hz0
  obtain ⟨i0, hi, hq0, hq1, hq2⟩ := info_parts (P := Tryz.prog) (e := 88) (z := .agg #[.int .i64 0, .string ⟨#[]⟩]) (size := 2) (bytes := 24) (by kernel_rfl)
  go_loopw [3, 9] (fun ov kv wr => SdRel ps w kv ov wr) (fun ov kv wr => sdLeft ps kv)
  case atStart => exact ⟨0, rfl, Nat.zero_le _, ⟨rfl, Or.inl ⟨rfl, rfl⟩⟩, HP0.out, HB0.out, fun _ => rfl⟩
  case round =>
    obtain ⟨k, rfl, hk, hO, hP, hB, hN⟩ := hrel
    have HO := hide hO
    have HP := hide hP
    have HB := hide hB
    have HN := hide hN
    have HZ1 := hide (show w.heap.size + 1 ≤ wr.heap.size from (Array.getElem?_eq_some_iff.1 hP).1)
    clear hO hP hB hN
    by_cases hlt : k < ps.length
    · obtain ⟨t, ht⟩ : ∃ t, ps[k]? = some t := ⟨_, List.getElem?_eq_getElem hlt⟩
      have hc := HP.out.cell k t ht
      have hts := HPS.out t (List.mem_of_getElem? ht)
      have HTk := hide (show rawFrom 0 (ps.take (k + 1)) = rawFrom 0 (ps.take k) ++ [(k + 1, Lib.trimB (Lib.cut t [35]).1 32)] from by
        rw [List.take_add_one, ht]
        show rawFrom 0 (ps.take k ++ [t]) = _
        rw [raw_snoc, List.length_take, Nat.min_eq_left (by omega)]
        simp [shownL])
      have HC := hide (cut_any t (by omega) 35)
      have hcl : (Lib.cut t [35]).1.length ≤ t.length := (cut_len t 35).1
      generalize (Lib.cut t [35]).1 = c1 at *
      generalize (Lib.cut t [35]).2.1 = c2 at *
      generalize (Lib.cut t [35]).2.2 = c3 at *
      have HT := hide (fun w => Tryz.strings_Trim_one ⟨c1.toArray⟩ 32 (by decide) w (by simp [ByteArray.size]; omega))
      clear ht
      simp only at HT
      replace HT := hide (fun w => (HT.out w).mono (fun e w' h => (⟨h.1, trim_below h.2⟩ : _ ∧ Below w.heap.size w w')))
      generalize Lib.trimB c1 32 = c4 at *
      go_wp2_with (first | (go_at_call 33; refine (HC.out _ ((HA.out.below HB.out).len)).mono ?_; rintro e w2 ⟨rfl, hx2⟩; have HB2 := hide hx2; clear hx2) | (go_at_call 72; refine (HT.out _).mono ?_; rintro e w3 ⟨rfl, hx3⟩; have HB3 := hide (HB2.out.trans (hx3.mono HB2.out.size)); clear hx3) | (at_builtin; refine wpList_append_own _ rfl (.tmp 20) (.tmp 26) 81 rfl (w.heap.size + 1) 88 i0 (.agg #[.int .i64 0, .string ⟨#[]⟩]) 2 24 Tryz.underlying81 hi hq0 hq1 hq2 rfl (by decide) _ _ _ rfl ((own_keeps HO.out HB3.out).alloc _) ⟨_, 0, none⟩ 1 1 [.int .i64 ((k + 1 : Nat) : Int), .string ⟨c4.toArray⟩] rfl rfl (cell_two_new' _ _ _ _) (by intro u hu; simp at hu; rcases hu with rfl | rfl <;> rfl) (by unfold maxLen; omega) (by omega) (by have := HZ1.out; have := HB3.out.size; simp; omega) ?_; intro v4 w4 hown4 hgrow4 hnil4))
      go_roundw
      case rel =>
        have hX := (own_keeps HO.out HB3.out).alloc (.cells #[.int .i64 ((k + 1 : Nat) : Int), .string ⟨c4.toArray⟩] 88)
        have hbz := HB.out.trans (HB3.out.mono (by have := HZ1.out; omega))
        have hz3 : w.heap.size + 1 ≤ w3.heap.size := Nat.le_trans HZ1.out HB3.out.size
        refine ⟨k + 1, by go_num, by omega, by rw [HTk.out, lineCells_snoc]; exact hown4, ?_, ?_, fun h => by have := (hnil4.1 h).2; omega⟩
        · exact (hgrow4.block w.heap.size (by simp; omega) (fun h => by have := own_block_ge hX _ h.symm; omega)).trans ((Below.heap_alloc _ _ _ (by omega)).trans (HP.out.keeps HB3.out))
        · exact (hbz.alloc (by omega) _).grown hgrow4 (by simp; omega) (fun j hj => by have := own_block_ge hX j hj; omega)
      case measure => unfold sdLeft; simp only [intOf]; omega
    · obtain rfl : k = ps.length := by omega
      have hO := HO.out
      rw [List.take_length] at hO
      obtain ⟨g, cap, rfl, hg, hL⟩ := lines_of_own hO (raw_len ps 0) (fun h => by have := HN.out h; omega)
      have HL := hide hL
      have hrl : (rawFrom 0 ps).length = ps.length := raw_len ps 0
      have HD := hide (del_any 73 isVoid tells_void (enters_of Tryz.func73 (by kernel_rfl) rfl) (rawFrom 0 ps) (by omega) (fun p hp => by
        obtain ⟨t, ht, h1, h2⟩ := raw_mem ps 0 p hp
        have h3 := HPS.out t ht
        have h4 := shown_le t
        rw [h1]
        constructor
        · omega
        · omega) g cap)
      clear hO hL
      rw [hrl] at HD ⊢
      go_wp2_with (go_at_call 43; refine (HD.out _ HL.out).mono ?_; rintro e w5 ⟨rfl, hx5, hx6⟩; have HL5 := hide hx5; have HG5 := hide hx6; clear hx5 hx6)
      go_ret
      exact ⟨g, cap, rfl, by omega, HL5.out, HB.out.grown HG5.out (by have := HZ1.out; omega) (fun j hj => by cases hj; omega)⟩
end Go.Proofs.YthfcodiplmodaaaGreatDoor
