/-
  What asm.guess answers.
-/
import Derived.Test.YtoekcfbjdcibpaaGreatDoorAsSeq
import Derived.Test.YtoekcfbjdcibpaaGreatDoorAsWith
import Derived.Maps.AppendAt
import Derived.Lib.AtoiErrMem
import Derived.Shelf.Strconv.ErrVarAll
namespace Go.Proofs.YtoekcfbjdcibpaaGreatDoor
open Go.RowKit Go.Shelf
set_option linter.unusedVariables false
attribute [local go_sem] Oper.semAt_some

theorem atoi_all (l : Str) (hl : l.length ≤ 100000) (w : World) (hb : BadAt w) (hf : ErrAt 8 w) :
    Calls Tryz.prog 68 #[.string ⟨l.toArray⟩] w fun e w' => (∃ v, e = .returned (.tuple #[.int .i64 (atoiV l), v])) ∧ Below w.heap.size w w' := by
  have hs : (ByteArray.mk l.toArray).size = l.length := by simp [ByteArray.size]
  unfold atoiV
  cases h : Lib.atoiAll l
  · rename_i v
    refine (Tryz.strconv_Atoi_ok ⟨l.toArray⟩ (by omega) v h w).mono ?_
    rintro e w' ⟨rfl, hw⟩
    refine ⟨⟨_, rfl⟩, ?_⟩
    rcases hw with rfl | ⟨t, rfl⟩
    · exact Below.refl _ _
    · exact Lib.bytesWorld_below _ _ _
  · obtain ⟨tp, p, h1⟩ := hb
    refine (show Calls Tryz.prog 68 #[.string ⟨l.toArray⟩] w _ from Any.strconv_Atoi_syntax_var Tryz.laysC172 ⟨l.toArray⟩ (by omega) h tp p w h1).mono ?_
    rintro e w' ⟨N, rfl, _, _, hb⟩
    exact ⟨⟨_, rfl⟩, hb⟩
  · obtain ⟨ev, h1, h2⟩ := hf
    refine (Tryz.strconv_Atoi_range ⟨l.toArray⟩ (by omega) h ev w h1 h2).mono ?_
    rintro e w' ⟨N, rfl, _, _, hb⟩
    exact ⟨⟨_, rfl⟩, hb⟩

theorem mark_grows (w : World) : PredGrows Tryz.prog 66 #[] markN w := fun W x hx _ => isMark_any x hx W

def lettersV (l : Str) : List ByteArray := l.map fun c => ⟨#[c]⟩
theorem letters_parts (k op : Nat) (hk : IsKind k) : Lib.goFieldsP markN ⟨(operK k op).toArray⟩ = lettersV (lettersK k op) := by
  rcases hk with rfl | rfl | rfl | rfl | rfl | rfl | rfl | rfl | rfl | rfl | rfl
  · rw [show operK 85 op = [100, 44, 32, 117] from rfl, show lettersK 85 op = [100, 117] from rfl]
    decide +kernel
  · rw [show operK 74 op = [100, 44, 32, 110] from rfl, show lettersK 74 op = [100, 110] from rfl]
    decide +kernel
  · rw [show operK 73 op = [100, 44, 32, 115, 44, 32, 110] from rfl, show lettersK 73 op = [100, 115, 110] from rfl]
    decide +kernel
  · rw [show operK 76 op = [100, 44, 32, 110, 40, 115, 41] from rfl, show lettersK 76 op = [100, 110, 115] from rfl]
    decide +kernel
  · rw [show operK 70 op = [100, 44, 32, 115, 44, 32, 110] from rfl, show lettersK 70 op = [100, 115, 110] from rfl]
    decide +kernel
  · by_cases h : 54 ≤ op
    · rw [show operK 67 op = [100, 44, 32, 99, 44, 32, 122] by simp [operK, h], show lettersK 67 op = [100, 99, 122] by simp [lettersK, h]]
      decide +kernel
    · rw [show operK 67 op = [100, 44, 32, 99, 44, 32, 115] by simp [operK, h], show lettersK 67 op = [100, 99, 115] by simp [lettersK, h]]
      decide +kernel
  · rw [show operK 66 op = [115, 44, 32, 116, 44, 32, 110] from rfl, show lettersK 66 op = [115, 116, 110] from rfl]
    decide +kernel
  · rw [show operK 83 op = [116, 44, 32, 110, 40, 115, 41] from rfl, show lettersK 83 op = [116, 110, 115] from rfl]
    decide +kernel
  · rw [show operK 72 op = [100, 44, 32, 115, 44, 32, 110] from rfl, show lettersK 72 op = [100, 115, 110] from rfl]
    decide +kernel
  · rw [show operK 82 op = [100, 44, 32, 115, 44, 32, 116] from rfl, show lettersK 82 op = [100, 115, 116] from rfl]
    decide +kernel
  · rw [show operK 78 op = [] from rfl, show lettersK 78 op = [] from rfl]
    decide +kernel

theorem letters_all (k op : Nat) (hk : IsKind k) : ∀ c ∈ lettersK k op, Letter c := by
  rcases hk with rfl | rfl | rfl | rfl | rfl | rfl | rfl | rfl | rfl | rfl | rfl
  case inr.inr.inr.inr.inr.inl =>
    by_cases h : 54 ≤ op <;> simp [lettersK, h, Letter]
  all_goals simp [lettersK, Letter]

theorem trim_len (x : Str) : (Lib.trimPrefix x [120]).length ≤ x.length := by
  unfold Lib.trimPrefix
  split
  · rw [List.length_drop]; omega
  · exact Nat.le_refl _

/-- What is left of the parts when k are taken. -/
def PartsV (A n k : Nat) (v : Value) : Prop := (k < n ∧ v = .slice (some ⟨A, k, none⟩) (n - k) (n - k)) ∨ (n ≤ k ∧ ∃ a, v = .slice a 0 0)
/-- What guess's own variables hold. -/
def GuessW (b1 b2 A : Nat) (L : Str) (i : I6) (k : Nat) (W : World) : Prop :=
  (W.heap[b1]? = some (.cells i.cells 28 (0, 0)) ∧ ∃ v, W.heap[b2]? = some (.cells #[v] 51 (0, 0)) ∧ PartsV A L.length k v) ∧ W.heap[A]? = some (.cells ((lettersV L).map Value.string).toArray 9 (0, 0))
theorem block_keeps {W W' : World} {b : Nat} {o : Obj} (h : W.heap[b]? = some o) (hb : Below W.heap.size W W') : W'.heap[b]? = some o := (hb.block _ (Array.getElem?_eq_some_iff.1 h).1).trans h
theorem GuessW.keeps {b1 b2 A : Nat} {L : Str} {i : I6} {k : Nat} {W W' : World} (h : GuessW b1 b2 A L i k W) (hb : Below W.heap.size W W') : GuessW b1 b2 A L i k W' :=
  ⟨⟨block_keeps h.1.1 hb, h.1.2.elim fun v hv => ⟨v, block_keeps hv.1 hb, hv.2⟩⟩, block_keeps h.2 hb⟩
theorem row_keeps {A B : World} {row : Option Nat} {k : Nat} {cs : Array Value} {t : TypeId} {fr : Nat × Nat} (h : A.heap[k]? = some (.cells cs t fr)) (hg : A.grownBy B row) (hr : ∀ r, row = some r → ∃ o : Obj, A.heap[r]? = some o ∧ o.isCells = false) : B.heap[k]? = some (.cells cs t fr) := by
  rw [hg.block k (Array.getElem?_eq_some_iff.1 h).1 (fun e => by
    obtain ⟨o, ho, hc⟩ := hr k e.symm
    rw [h] at ho
    cases ho
    simp [Obj.isCells] at hc)]
  exact h

def zeroI (op : Nat) : I6 := ⟨op, 0, 0, 0, 0, 0⟩
/-- Between two rounds. -/
def GuessI (w : World) (op b1 b2 A : Nat) (L : Str) (pre : List (Piece 100000)) (W : World) : Prop :=
  (((pre.length ≤ L.length ∧ b2 + 2 < W.heap.size) ∧ W.heap[w.heap.size]? = some (.cells (zeroI 0).cells 28 (0, 0))) ∧ GuessW b1 b2 A L (guessFrom (zeroI op) L (pre.map (·.1))) pre.length W) ∧ Below w.heap.size w W
def GuessX (w : World) (op b1 : Nat) (L : Str) (pre : List (Piece 100000)) (W : World) : Prop :=
  ((L.length < pre.length ∧ W.heap[w.heap.size]? = some (.cells (zeroI 0).cells 28 (0, 0))) ∧ W.heap[b1]? = some (.cells (guessFrom (zeroI op) L (pre.map (·.1))).cells 28 (0, 0))) ∧ Below w.heap.size w W

theorem six_of_row {W : World} {b : Nat} {i : I6} {t : TypeId} (h : W.heap[b]? = some (.cells i.cells t (0, 0))) : SixAt W b i := by
  refine ⟨?_, ?_, ?_, ?_, ?_, ?_⟩
  all_goals exact (cell_of_row _ _ _ _ _ (0, 0) h).trans rfl

/-- The result laid in its box, cell by cell. -/
def laidSix (W : World) (b : Nat) (i : I6) : World := (((((W.setCell ⟨b, 0, none⟩ (.int .i64 i.op)).setCell ⟨b, 1, none⟩ (.int .i64 i.rd)).setCell ⟨b, 2, none⟩ (.int .i64 i.rs1)).setCell ⟨b, 3, none⟩ (.int .i64 i.rs2)).setCell ⟨b, 4, none⟩ (.int .i64 i.imm)).setCell ⟨b, 5, none⟩ (.int .i64 i.csr)
theorem laidSix_row {W : World} {b : Nat} {i k : I6} {t : TypeId} (h : W.heap[b]? = some (.cells k.cells t (0, 0))) : (laidSix W b i).heap[b]? = some (.cells i.cells t (0, 0)) :=
  heap_setCell_same _ b 5 _ _ _ (heap_setCell_same _ b 4 _ _ _ (heap_setCell_same _ b 3 _ _ _ (heap_setCell_same _ b 2 _ _ _ (heap_setCell_same _ b 1 _ _ _ (heap_setCell_same W b 0 _ _ (.int .i64 i.op) h)))))
theorem laidSix_keeps (W : World) (b : Nat) (i : I6) : KeepsOthers W (laidSix W b i) :=
  (((((KeepsOthers.setCell _ _ _).trans (KeepsOthers.setCell _ _ _)).trans (KeepsOthers.setCell _ _ _)).trans (KeepsOthers.setCell _ _ _)).trans (KeepsOthers.setCell _ _ _)).trans (KeepsOthers.setCell _ _ _)
theorem laidSix_other {W : World} {b k : Nat} {i : I6} (h : k ≠ b) : (laidSix W b i).heap[k]? = W.heap[k]? := by
  unfold laidSix
  rw [heap_setCell_other _ _ _ _ h, heap_setCell_other _ _ _ _ h, heap_setCell_other _ _ _ _ h, heap_setCell_other _ _ _ _ h, heap_setCell_other _ _ _ _ h, heap_setCell_other _ _ _ _ h]
theorem laidSix_below {B b : Nat} {w W : World} (h : Below B w W) (hB : B ≤ b) (i : I6) : Below B w (laidSix W b i) :=
  (((((h.setCell (p := ⟨b, 0, none⟩) hB _).setCell (p := ⟨b, 1, none⟩) hB _).setCell (p := ⟨b, 2, none⟩) hB _).setCell (p := ⟨b, 3, none⟩) hB _).setCell (p := ⟨b, 4, none⟩) hB _).setCell (p := ⟨b, 5, none⟩) hB _

theorem guessI_own (w : World) (op b1 b2 A : Nat) (L : Str) (B : Nat) (hB : w.heap.size ≤ B) : OwnFrom B (GuessI w op b1 b2 A L) :=
  OwnFrom.and (Own.from (fun s A B row hs hg hr => ⟨⟨⟨hs.1.1.1, Nat.lt_of_lt_of_le hs.1.1.2 hg.size⟩, row_keeps hs.1.2 hg hr⟩, ⟨⟨row_keeps hs.2.1.1 hg hr, hs.2.1.2.elim fun v hv => ⟨v, row_keeps hv.1 hg hr, hv.2⟩⟩, row_keeps hs.2.2 hg hr⟩⟩) _) (ownFrom_below (Nat.le_refl _) hB)
theorem guessX_own (w : World) (op b1 : Nat) (L : Str) (B : Nat) (hB : w.heap.size ≤ B) : OwnFrom B (GuessX w op b1 L) :=
  OwnFrom.and (Own.from (fun s A B row hs hg hr => ⟨⟨hs.1.1, row_keeps hs.1.2 hg hr⟩, row_keeps hs.2 hg hr⟩) _) (ownFrom_below (Nat.le_refl _) hB)

theorem parts_new (A n : Nat) : PartsV A n 0 (.slice (some ⟨A, 0, none⟩) n n) := by
  rcases Nat.eq_zero_or_pos n with h | h
  · subst h; exact .inr ⟨Nat.le_refl _, _, rfl⟩
  · exact .inl ⟨h, rfl⟩

/-- A round's end. -/
theorem guess_step {w W w6 : World} {op b2 A : Nat} {L : Str} {pre : List (Piece 100000)} {x : Piece 100000} {q2 : I6} {v' : Value} (hW : GuessI w op (w.heap.size + 1) b2 A L pre W) (hb : Below W.heap.size W w6) (h1 : w.heap.size + 1 < b2) (h2 : w.heap.size + 1 < A) (h3 : A < b2)
    (hlt : pre.length < L.length) (hN : guessFrom (zeroI op) L ((pre ++ [x]).map (·.1)) = q2) (hv : PartsV A L.length (pre.length + 1) v') :
    KeepsFrom (b2 + 3) W ((laidSix w6 (w.heap.size + 1) q2).setCell ⟨b2, 0, none⟩ v') ∧ KeepQ w.heap.size (b2 + 1) W ((laidSix w6 (w.heap.size + 1) q2).setCell ⟨b2, 0, none⟩ v') ∧ GuessI w op (w.heap.size + 1) b2 A L (pre ++ [x]) ((laidSix w6 (w.heap.size + 1) q2).setCell ⟨b2, 0, none⟩ v') := by
  obtain ⟨⟨⟨⟨hpl, hsz⟩, hr⟩, ⟨⟨hi, v, hv0, hp0⟩, ha⟩⟩, hB⟩ := hW
  have ot : ∀ k, k ≠ w.heap.size + 1 → k ≠ b2 → k < W.heap.size → ((laidSix w6 (w.heap.size + 1) q2).setCell ⟨b2, 0, none⟩ v').heap[k]? = W.heap[k]? := fun k k1 k2 k3 => by
    rw [heap_setCell_other _ _ _ _ k2, laidSix_other k1, hb.block k k3]
  have hsz6 : ((laidSix w6 (w.heap.size + 1) q2).setCell ⟨b2, 0, none⟩ v').heap.size = w6.heap.size := by simp [laidSix]
  refine ⟨?_, ⟨fun k hk => ot k (by omega) (by omega) (by omega), ot _ (by omega) (by omega) (by omega), ot _ (by omega) (by omega) (by omega)⟩, ⟨⟨⟨⟨by simp; omega, by rw [hsz6]; exact Nat.lt_of_lt_of_le hsz hb.size⟩, (ot _ (by omega) (by omega) (by omega)).trans hr⟩, ⟨⟨?_, v', ?_, ?_⟩, (ot _ (by omega) (by omega) (by omega)).trans ha⟩⟩, ?_⟩⟩
  · exact (KeepsFrom.of_grownBy (row := none) ⟨hb.os, hb.tape, hb.output, hb.size, fun k hk _ => hb.block k hk⟩ (fun j e => by cases e)).trans (((laidSix_keeps w6 _ _).trans (KeepsOthers.setCell _ _ _)).from _)
  · rw [hN, heap_setCell_other _ _ _ _ (by show w.heap.size + 1 ≠ b2; omega)]
    exact laidSix_row (block_keeps hi hb)
  · exact heap_setCell_same _ b2 0 _ _ _ ((laidSix_other (by omega)).trans (block_keeps hv0 hb))
  · rw [List.length_append]; exact hv
  · exact (laidSix_below (hB.trans (hb.mono (by omega))) (by omega) _).setCell (p := ⟨b2, 0, none⟩) (by show w.heap.size ≤ b2; omega) _

theorem guess_snoc : ∀ (L : Str) (pre : List Str) (i : I6) (x : Str), guessFrom i L (pre ++ [x]) = match L[pre.length]? with | some c => withL (guessFrom i L pre) c (numX x) | none => guessFrom i L pre
  | [], pre, i, x => by cases pre <;> simp [guessFrom]
  | c :: L, [], i, x => by cases L <;> simp [guessFrom]
  | c :: L, y :: pre, i, x => by
    rw [List.cons_append, guessFrom, guess_snoc L pre, guessFrom]
    simp
theorem guess_more : ∀ (L : Str) (pre t : List Str) (i : I6), L.length ≤ pre.length → guessFrom i L (pre ++ t) = guessFrom i L pre
  | [], pre, t, i, _ => by cases pre <;> cases t <;> simp [guessFrom]
  | c :: L, [], t, i, h => by simp at h
  | c :: L, y :: pre, t, i, h => by
    rw [List.cons_append, guessFrom, guessFrom]
    exact guess_more L pre t _ (by simpa using h)

set_option maxRecDepth 100000 in
set_option maxHeartbeats 4000000 in
theorem guess_wide (op : Nat) (hop : op < 57) (text : Str) (ht : text.length ≤ 100000) (w : World) (hA : AsAt w) :
    CallsIn Fence.wide 3 Tryz.prog 35 #[.int .i64 op, .string ⟨text.toArray⟩] w fun e W' => e = .returned (.agg (guessL op text).cells) ∧ Below w.heap.size w W' := by
  have h1 : 1 ≤ 3 := by omega
  have hro : Fence.wide.round = none := rfl
  have HO := hide (oper_any op hop)
  have HL := hide (letters_parts (kindN op) op (kindN_is op hop))
  have HFF := hide (fun w => Tryz.strings_FieldsFunc_grows 66 #[] (enters_of Tryz.func66 (by kernel_rfl) rfl) markN ⟨(operK (kindN op) op).toArray⟩ w (by have := oper_len (kindN op) op; simp [ByteArray.size]; omega) (mark_grows w))
  rw [HL.out] at HFF
  have HA := hide hA
  clear hA
  refine callsIn_of_wp_marks Tryz.func35 rfl trivial ?_ hro
  simp only [Tryz.ntmps35, List.size_toArray, List.length_cons, List.length_nil, Nat.reduceAdd, Nat.reduceSub, Array.replicate_succ, Array.replicate_zero, List.push_toArray, List.append_toArray, List.nil_append, List.cons_append]
  gi_wp2_with (first | (refine ⟨trivial, ?_⟩; gi_at_call 23; refine (callsIn_wide.2 (HO.out _ (HA.out.tabs.below (((Below.refl _ w).alloc (Nat.le_refl _) _).alloc (by simp) _)))).mono ?_; rintro e w2 ⟨rfl, rfl⟩) | (refine ⟨trivial, ?_⟩; gi_at_call 65; refine (callsIn_wide.2 (HFF.out _)).mono ?_; rintro e w3 ⟨A, rfl, hA1, hA2, hA3⟩) | (refine ⟨trivial, ?_⟩; gi_at_call 67; refine (seq_in Fence.wide _ trivial hro _ _).mono ?_; rintro e w4 ⟨rfl, rfl⟩))
  obtain ⟨g, cap, cur, hsl, hg1, hg2, hg3, hg4, hg5, hg6⟩ : ∃ g cap cur, Value.slice (some ⟨A, 0, none⟩) (lettersV (lettersK (kindN op) op)).length (lettersV (lettersK (kindN op) op)).length = .slice (some ⟨g, 0, none⟩) (lettersV (lettersK (kindN op) op)).length cap ∧ _ := by
    rcases hA2.2 with ⟨h, _⟩ | h
    · cases h
    · exact h
  obtain ⟨rfl, rfl⟩ : A = g ∧ (lettersV (lettersK (kindN op) op)).length = cap := by simpa using hsl
  have hcur : cur = ((lettersV (lettersK (kindN op) op)).map Value.string).toArray := by
    rw [Nat.mul_one, List.take_of_length_le (by rw [Array.length_toList, hg5]; omega)] at hg6
    rw [← hg6]
  subst hcur
  have hll : (lettersV (lettersK (kindN op) op)).length = (lettersK (kindN op) op).length := by simp [lettersV]
  rw [hll]
  simp only [World.size_alloc] at hA1 hA3 hg1
  have hb3 : Below w.heap.size w w3 := (((Below.refl _ w).alloc (Nat.le_refl _) _).alloc (by simp) _).trans (hA3.mono (by omega))
  have hr3 : w3.heap[w.heap.size]? = some (.cells (zeroI 0).cells 28 (0, 0)) := (hA3.block _ (by omega)).trans ((Below.heap_alloc _ _ _ (by simp)).trans (heap_alloc_new w _))
  have hi3 : w3.heap[w.heap.size + 1]? = some (.cells (zeroI op).cells 28 (0, 0)) := (hA3.block _ (by omega)).trans (two_boxes w _ _)
  clear hA2 hsl hg3 hg4 hg5 hg6 HFF HL HO
  have hs3 : w.heap.size + 2 ≤ w3.heap.size := by have := hA3.size; simp only [World.size_alloc] at this; omega
  have hA4 : A < w3.heap.size := (Array.getElem?_eq_some_iff.1 hg2).1
  clear hA3
  have HG : Hid (guessL op text = guessFrom (zeroI op) (lettersK (kindN op) op) (fieldsFrom [] text)) := rfl
  have HLt := hide (letters_all (kindN op) op (kindN_is op hop))
  generalize lettersK (kindN op) op = L at *
  have hP : (((w3.alloc (.cells #[.slice (some ⟨A, 0, none⟩) L.length L.length] 51)).alloc (.cells #[.string ⟨text.toArray⟩] 9)).alloc (.cells #[.func (.func 66) #[] #[]] 121)).heap[w3.heap.size]? = some (.cells #[.slice (some ⟨A, 0, none⟩) L.length L.length] 51 (0, 0)) := by
    exact (Below.heap_alloc _ _ _ (by simp; omega)).trans ((Below.heap_alloc _ _ _ (by simp)).trans (heap_alloc_new w3 _))
  have hS : (((w3.alloc (.cells #[.slice (some ⟨A, 0, none⟩) L.length L.length] 51)).alloc (.cells #[.string ⟨text.toArray⟩] 9)).alloc (.cells #[.func (.func 66) #[] #[]] 121)).heap[w3.heap.size + 1]? = some (.cells #[.string ⟨text.toArray⟩] 9 (0, 0)) := by
    exact (Below.heap_alloc _ _ _ (by simp)).trans (two_boxes w3 _ _)
  have hF : (((w3.alloc (.cells #[.slice (some ⟨A, 0, none⟩) L.length L.length] 51)).alloc (.cells #[.string ⟨text.toArray⟩] 9)).alloc (.cells #[.func (.func 66) #[] #[]] 121)).heap[w3.heap.size + 1 + 1]? = some (.cells #[.func (.func 66) #[] #[]] 121 (0, 0)) := by
    have := heap_alloc_new ((w3.alloc (.cells #[.slice (some ⟨A, 0, none⟩) L.length L.length] 51)).alloc (.cells #[.string ⟨text.toArray⟩] 9)) (.cells #[.func (.func 66) #[] #[]] 121)
    rwa [World.size_alloc, World.size_alloc] at this
  have hb0 : Below w3.heap.size w3 (((w3.alloc (.cells #[.slice (some ⟨A, 0, none⟩) L.length L.length] 51)).alloc (.cells #[.string ⟨text.toArray⟩] 9)).alloc (.cells #[.func (.func 66) #[] #[]] 121)) := (((Below.refl _ w3).alloc (Nat.le_refl _) _).alloc (by simp) _).alloc (by simp; omega) _
  have hsz0 : (((w3.alloc (.cells #[.slice (some ⟨A, 0, none⟩) L.length L.length] 51)).alloc (.cells #[.string ⟨text.toArray⟩] 9)).alloc (.cells #[.func (.func 66) #[] #[]] 121)).heap.size = w3.heap.size + 3 := by simp
  generalize (((w3.alloc (.cells #[.slice (some ⟨A, 0, none⟩) L.length L.length] 51)).alloc (.cells #[.string ⟨text.toArray⟩] 9)).alloc (.cells #[.func (.func 66) #[] #[]] 121)) = W0 at *
  have hI0 : GuessI w op (w.heap.size + 1) w3.heap.size A L [] W0 := ⟨⟨⟨⟨Nat.zero_le _, by omega⟩, (hb0.block _ (by omega)).trans hr3⟩, ⟨⟨(hb0.block _ (by omega)).trans (by cases L <;> exact hi3), _, hP, parts_new A L.length⟩, (hb0.block _ hA4).trans hg2⟩⟩, hb3.trans (hb0.mono hb3.size)⟩
  have hk0 : ∀ k, k < w.heap.size → W0.heap[k]? = w.heap[k]? := fun k hk => hI0.2.block k hk
  refine wpIn_rangeFunc_ownG hro h1 (gf := 94) (lb := #[.pointer (some ⟨w3.heap.size + 1, 0, none⟩), .pointer (some ⟨w3.heap.size + 1 + 1, 0, none⟩)]) rfl trivial (enters_of Tryz.func94 (by kernel_rfl) rfl)
    (seq_stops 100000 (3 - 1) (by omega) w.heap.size (w3.heap.size + 1) ⟨text.toArray⟩ (by simp [ByteArray.size]; omega) (by simp [ByteArray.size]; omega) w rfl HA.out.runes W0 (by omega) (by omega) hk0 hS hF) KeepQ.trans (KeepQ.put (by omega) (by omega)) (Below.refl _ _) (fun _ => rfl)
    (GuessI w op (w.heap.size + 1) w3.heap.size A L)
    (fun c pre W => c = .exit 0 ∧ GuessX w op (w.heap.size + 1) L pre W)
    (guessI_own w op _ _ A L _ (by omega))
    (fun c s A B row hs hg hr => ⟨hs.1, guessX_own w op _ L _ (by omega) s A B row hs.2 hg hr⟩)
    hI0
    (fun x => { tmps := #[.int .i64 op, .string ⟨text.toArray⟩, undef, undef, .pointer (some ⟨w.heap.size, 0, none⟩), .pointer (some ⟨w.heap.size + 1, 0, none⟩), .pointer (some ⟨w3.heap.size, 0, none⟩), .string ⟨x.1.toArray⟩, undef, undef, .int .i64 op, .agg #[.int .i64 op, .int .i64 0, .int .i64 0, .int .i64 0, .int .i64 0, .int .i64 0], .int .i64 op, .string ⟨(operK (kindN op) op).toArray⟩, .slice (some ⟨A, 0, none⟩) L.length L.length, .string ⟨text.toArray⟩, .func (.func 94) #[] #[.pointer (some ⟨w3.heap.size + 1, 0, none⟩), .pointer (some ⟨w3.heap.size + 1 + 1, 0, none⟩)], .string ⟨x.1.toArray⟩, undef, undef, undef, undef, undef, undef, undef, undef, undef, undef, undef, undef, undef, undef, undef, undef, undef, undef], defers := [] }) ?assign ?body ?done ?stop
  case assign =>
    intro l x W K hK
    gi_wp2
    exact hK
  case body =>
    rintro l pre x W hGI hlen
    have HGI := hide hGI
    obtain ⟨⟨⟨⟨hpl, hsz⟩, hr⟩, hW⟩, hB⟩ := hGI
    have hN := guess_snoc L (pre.map (·.1)) (zeroI op) x.1
    rw [List.length_map] at hN
    obtain ⟨v, hv0, hpv⟩ := hW.1.2
    have hc1 : W.cell? ⟨w3.heap.size, 0, none⟩ = some v := cell_of_row _ _ _ _ _ (0, 0) hv0
    by_cases hlt : pre.length < L.length
    · obtain ⟨c, hc⟩ : ∃ c, L[pre.length]? = some c := ⟨_, List.getElem?_eq_getElem hlt⟩
      rw [hc] at hN
      simp only at hN
      obtain rfl : v = .slice (some ⟨A, pre.length, none⟩) (L.length - pre.length) (L.length - pre.length) := by
        rcases hpv with h | h
        · exact h.2
        · omega
      have hcr : W.cell? ⟨A, pre.length, none⟩ = some (.string ⟨#[c]⟩) := by
        rw [cell_of_row _ _ _ _ _ (0, 0) hW.2]
        simp [lettersV, hc]
      have HTP := hide (fun w => Tryz.strings_TrimPrefix ⟨x.1.toArray⟩ ⟨#[120]⟩ w)
      have HAt := hide (fun w h h' => atoi_all (Lib.trimPrefix x.1 [120]) (Nat.le_trans (trim_len x.1) x.2) w h h')
      have HWi := hide (fun w => with_ans (guessFrom (zeroI op) L (pre.map (·.1))) c (HLt.out c (List.mem_of_getElem? hc)) (numX x.1) w)
      have hnum : atoiV (Lib.trimPrefix x.1 [120]) = numX x.1 := rfl
      rw [hnum] at HAt
      have HE := hide (And.intro (HA.out.below hB).bad (HA.out.below hB).far)
      have HN := hide (show guessFrom (zeroI op) L ((pre ++ [x]).map (·.1)) = withL (guessFrom (zeroI op) L (pre.map (·.1))) c (numX x.1) from by rw [List.map_append]; exact hN)
      have HW := hide hW
      obtain ⟨m, hm⟩ : ∃ m, L.length - pre.length = m + 1 := ⟨L.length - pre.length - 1, by omega⟩
      have HM := hide hm
      have HLn := hide hlt
      rw [hm] at hc1
      clear hW hB hr hN hI0 hk0 hnum HG hg2 hi3 hr3 hb0 hP hS hF hpv hv0 hm hlt hpl hlen
      generalize guessFrom (zeroI op) L (pre.map (·.1)) = q at *
      generalize numX x.1 = nx at *
      obtain ⟨o, rd, rs1, rs2, imm, csr⟩ := q
      generalize withL ⟨o, rd, rs1, rs2, imm, csr⟩ c nx = q2 at HWi HN
      obtain ⟨o', rd', rs1', rs2', imm', csr'⟩ := q2
      simp only [I6.cells] at HWi
      have hmx : Tryz.prog.follows .mixedOrders = true := by kernel_rfl
      gi_wp2_with (first
        | (refine ⟨trivial, ?_⟩; gi_at_call 69; refine (CallsIn.inRound l (callsIn_wide.2 (HTP.out _))).mono ?_; rintro e w4 ⟨rfl, rfl⟩)
        | (refine ⟨trivial, ?_⟩; gi_at_call 68; refine (CallsIn.inRound l (callsIn_wide.2 (HAt.out _ HE.out.1 HE.out.2))).mono ?_; rintro e w5 ⟨⟨v5, rfl⟩, hx5⟩; have HW5 := hide (HW.out.keeps hx5); have HX5 := hide hx5; obtain ⟨c0, c1, c2, c3, c4, c5⟩ := six_of_row HW5.out.1.1; simp only at c0 c1 c2 c3 c4 c5; have hc1' := cell_keeps hx5 hc1; have hcr' := cell_keeps hx5 hcr; clear hx5))
      gi_region_with_o (refine ⟨trivial, ?_⟩; gi_at_call 70; refine (CallsIn.inRound l (callsIn_wide.2 (HWi.out _))).mono ?_; rintro e w6 ⟨rfl, hx6⟩; replace hx6 := below_of_drew hx6; have HX6 := hide hx6; have HW6 := hide (HW5.out.keeps hx6); obtain ⟨d0, d1, d2, d3, d4, d5⟩ := six_of_row HW6.out.1.1; simp only at d0 d1 d2 d3 d4 d5; have hc1'' := cell_keeps hx6 hc1'; have f1 : ∀ j, w6.frozen? ⟨w.heap.size + 1, j, none⟩ = false := fun j => frozen_of_row w6 _ _ _ _ HW6.out.1.1; have f2 : w6.frozen? ⟨w3.heap.size, 0, none⟩ = false := HW6.out.1.2.elim fun v hv => frozen_of_row w6 _ _ _ _ hv.1; clear hx6)
      all_goals gi_wp2
      all_goals
        have hst := fun v' => guess_step (v' := v') HGI.out (HX5.out.trans (HX6.out.mono HX5.out.size)) (by omega) (by omega) (by omega) HLn.out HN.out
        simp only [laidSix] at hst
        have hm := HM.out
        have hl := HLn.out
        first | exact hst _ (.inr ⟨by omega, _, rfl⟩) | exact hst _ (.inl ⟨by omega, by rw [show L.length - (pre.length + 1) = m by omega]⟩)
    · have e : pre.length = L.length := by omega
      rw [List.getElem?_eq_none (by omega)] at hN
      simp only at hN
      have HX := hide (show GuessX w op (w.heap.size + 1) L (pre ++ [x]) W from ⟨⟨⟨by simp; omega, hr⟩, by rw [List.map_append]; show W.heap[w.heap.size + 1]? = some (.cells (guessFrom (zeroI op) L (pre.map (·.1) ++ [x.1])).cells 28 (0, 0)); rw [hN]; exact hW.1.1⟩, hB⟩)
      obtain ⟨a, rfl⟩ : ∃ a, v = .slice a 0 0 := by
        rcases hpv with h | h
        · omega
        · exact h.2
      clear hW hr hN hB hI0 hk0 hpv hv0 HGI
      gi_wp2
      exact ⟨KeepsFrom.refl _ _, rfl, HX.out⟩
  case done =>
    rintro D ys W hD hys ⟨⟨⟨hpl, hr⟩, hW⟩, hB⟩ hK
    have HG' := HG.out
    have HR := hide hr
    have hz := six_of_row hr
    have hy := six_of_row hW.1.1
    clear HG hr
    rw [hys, show (ByteArray.mk text.toArray).data.toList = text from rfl] at hy
    rw [← HG'] at hy
    clear hys
    clear HG' hI0 hk0 hW
    obtain ⟨q, hq⟩ : ∃ q, guessL op text = q := ⟨_, rfl⟩
    rw [hq] at hy
    have HQ := hide hq
    clear hq
    obtain ⟨o, rd, rs1, rs2, imm, csr⟩ := q
    obtain ⟨c0, c1, c2, c3, c4, c5⟩ := hy
    obtain ⟨z0, z1, z2, z3, z4, z5⟩ := hz
    simp only [zeroI] at c0 c1 c2 c3 c4 c5 z0 z1 z2 z3 z4 z5
    have f0 : ∀ j, W.frozen? ⟨w.heap.size, j, none⟩ = false := fun j => frozen_of_row W _ _ _ _ HR.out
    gi_wp2
    have hK' : (laidSix W w.heap.size ⟨o, rd, rs1, rs2, imm, csr⟩).heap[D]? = some (.deferred (some [])) := (laidSix_other (by omega)).trans hK
    have hR' := laidSix_row (i := ⟨o, rd, rs1, rs2, imm, csr⟩) HR.out
    have hB' := laidSix_below hB (Nat.le_refl _) ⟨o, rd, rs1, rs2, imm, csr⟩
    simp only [laidSix, I6.cells] at hK' hR' hB'
    generalize (((((W.setCell ⟨w.heap.size, 0, none⟩ (.int .i64 o)).setCell ⟨w.heap.size, 1, none⟩ (.int .i64 rd)).setCell ⟨w.heap.size, 2, none⟩ (.int .i64 rs1)).setCell ⟨w.heap.size, 3, none⟩ (.int .i64 rs2)).setCell ⟨w.heap.size, 4, none⟩ (.int .i64 imm)).setCell ⟨w.heap.size, 5, none⟩ (.int .i64 csr) = V at *
    refine ⟨by simp, .inl ⟨_, _, rfl, run_takeDeferred hK', ?_⟩⟩
    refine ⟨_, results_cell_row Tryz.results35 _ _ w.heap.size _ _ _ _ rfl ((World.putObj_heap_other (by omega)).trans hR') Tryz.underlying28 rfl size_inst, ?_, hB'.trans (belowK_b (w := w) (Nat.le_refl _) _ D _ _ (by omega) hK' rfl rfl)⟩
    rw [HQ.out]
    rfl
  case stop =>
    rintro D c pre W hD hpre ⟨rfl, ⟨⟨hpl, hr⟩, hW⟩, hB⟩ hK
    have HG' := HG.out
    have HR := hide hr
    have hz := six_of_row hr
    have hy := six_of_row hW
    clear HG hr
    rw [show (ByteArray.mk text.toArray).data.toList = text from rfl] at hpre
    obtain ⟨t, ht'⟩ := hpre
    rw [← ht', guess_more L (pre.map (·.1)) t _ (by rw [List.length_map]; omega)] at HG'
    rw [← HG'] at hy
    clear HG' hI0 hk0 hW ht'
    obtain ⟨q, hq⟩ : ∃ q, guessL op text = q := ⟨_, rfl⟩
    rw [hq] at hy
    have HQ := hide hq
    clear hq
    obtain ⟨o, rd, rs1, rs2, imm, csr⟩ := q
    obtain ⟨c0, c1, c2, c3, c4, c5⟩ := hy
    obtain ⟨z0, z1, z2, z3, z4, z5⟩ := hz
    simp only [zeroI] at c0 c1 c2 c3 c4 c5 z0 z1 z2 z3 z4 z5
    have f0 : ∀ j, W.frozen? ⟨w.heap.size, j, none⟩ = false := fun j => frozen_of_row W _ _ _ _ HR.out
    gi_wp2
    have hK' : (laidSix W w.heap.size ⟨o, rd, rs1, rs2, imm, csr⟩).heap[D]? = some (.deferred (some [])) := (laidSix_other (by omega)).trans hK
    have hR' := laidSix_row (i := ⟨o, rd, rs1, rs2, imm, csr⟩) HR.out
    have hB' := laidSix_below hB (Nat.le_refl _) ⟨o, rd, rs1, rs2, imm, csr⟩
    simp only [laidSix, I6.cells] at hK' hR' hB'
    generalize (((((W.setCell ⟨w.heap.size, 0, none⟩ (.int .i64 o)).setCell ⟨w.heap.size, 1, none⟩ (.int .i64 rd)).setCell ⟨w.heap.size, 2, none⟩ (.int .i64 rs1)).setCell ⟨w.heap.size, 3, none⟩ (.int .i64 rs2)).setCell ⟨w.heap.size, 4, none⟩ (.int .i64 imm)).setCell ⟨w.heap.size, 5, none⟩ (.int .i64 csr) = V at *
    refine ⟨by simp, .inl ⟨_, _, rfl, run_takeDeferred hK', ?_⟩⟩
    refine ⟨_, results_cell_row Tryz.results35 _ _ w.heap.size _ _ _ _ rfl ((World.putObj_heap_other (by omega)).trans hR') Tryz.underlying28 rfl size_inst, ?_, hB'.trans (belowK_b (w := w) (Nat.le_refl _) _ D _ _ (by omega) hK' rfl rfl)⟩
    rw [HQ.out]
    rfl

theorem guess_any (op : Nat) (hop : op < 57) (text : Str) (ht : text.length ≤ 100000) (w : World) (hA : AsAt w) :
    Calls Tryz.prog 35 #[.int .i64 op, .string ⟨text.toArray⟩] w fun e W' => e = .returned (.agg (guessL op text).cells) ∧ Below w.heap.size w W' :=
  callsIn_wide.1 (guess_wide op hop text ht w hA)
end Go.Proofs.YtoekcfbjdcibpaaGreatDoor
