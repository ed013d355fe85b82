/-
  strings.FieldsFuncSeq, asked with asm.isMark.
-/
import Derived.Test.YtoekcfbjdcibpaaGreatDoorAsMark
import Derived.RangeFuncNested
import Derived.RangeFuncBound
import Derived.RangeFuncCalls
import Derived.RangeFuncLeaves
import Derived.Shelf.Abstract
import Derived.Shelf.RegionOpen
import Derived.WalkKit
import Derived.OwnWalkIn
import Derived.TacticsInMore
import Derived.LoopNIn
import Derived.LoopIn
namespace Go.Proofs.YtoekcfbjdcibpaaGreatDoor
open Go.RowKit Go.Shelf
set_option linter.unusedVariables false
attribute [local go_sem] Oper.semAt_some

set_option maxRecDepth 100000 in
set_option maxHeartbeats 2000000 in
theorem seq_in (F : Fence) (n : Nat) (hf : F.fn 67) (hro : F.round = none) (s : ByteArray) (w : World) :
    CallsIn F n Tryz.prog 67 #[.string s, .func (.func 66) #[] #[]] w fun e W' => e = .returned (.func (.func 94) #[] #[.pointer (some ⟨w.heap.size, 0, none⟩), .pointer (some ⟨w.heap.size + 1, 0, none⟩)]) ∧ W' = (w.alloc (.cells #[.string s] 9)).alloc (.cells #[.func (.func 66) #[] #[]] 121) := by
  refine callsIn_of_wp Tryz.func67 rfl hf ?_ hro
  simp only [Tryz.ntmps67, List.size_toArray, List.length_cons, List.length_nil, Nat.reduceAdd, Nat.reduceSub, Array.replicate_succ, Array.replicate_zero, List.push_toArray, List.append_toArray, List.nil_append, List.cons_append]
  gi_wp2
  go_ret
  exact ⟨rfl, rfl⟩

/-- What a round keeps: what lay ahead of all, and the two boxes that the iterator reads. -/
def KeepQ (N Bs : Nat) (A B : World) : Prop := (∀ k, k < N → B.heap[k]? = A.heap[k]?) ∧ B.heap[Bs]? = A.heap[Bs]? ∧ B.heap[Bs + 1]? = A.heap[Bs + 1]?
theorem KeepQ.refl (N Bs : Nat) (A : World) : KeepQ N Bs A A := ⟨fun _ _ => rfl, rfl, rfl⟩
theorem KeepQ.trans {N Bs : Nat} {A B C : World} (h : KeepQ N Bs A B) (k : KeepQ N Bs B C) : KeepQ N Bs A C := ⟨fun j hj => (k.1 j hj).trans (h.1 j hj), k.2.1.trans h.2.1, k.2.2.trans h.2.2⟩
theorem KeepQ.put {N Bs : Nat} {w : World} (hN : N ≤ w.heap.size) (hB : Bs + 1 < w.heap.size) (W : World) (l : Nat) (o o' : Obj) (hl : w.heap.size ≤ l) (h : W.heap[l]? = some o) (c1 : o.isCells = false) (c2 : o.isWalk = false) : KeepQ N Bs W (W.putObj l o') :=
  ⟨fun k hk => World.putObj_heap_other (by omega), World.putObj_heap_other (by omega), World.putObj_heap_other (by omega)⟩
theorem KeepQ.below {N Bs : Nat} {A B C : World} (h : KeepQ N Bs A B) (hN : N ≤ B.heap.size) (hB : Bs + 1 < B.heap.size) (k : Below B.heap.size B C) : KeepQ N Bs A C :=
  h.trans ⟨fun j hj => k.block j (by omega), k.block _ (by omega), k.block _ (by omega)⟩

theorem runes_same {w W : World} (h : RuneAt w) (hk : ∀ k, k < w.heap.size → W.heap[k]? = w.heap[k]?) : RuneAt W := by
  have lt : ∀ {a : Addr} {v : Value}, w.cell? a = some v → a.block < w.heap.size := fun {a v} hc => World.block_lt_of_cell? w a hc
  have key : ∀ {b o : Nat} {v : Value}, w.cell? ⟨b, o, none⟩ = some v → W.cell? ⟨b, o, none⟩ = some v := fun {b o v} hc => (by simp only [World.cell?, hk b (lt hc)] at hc ⊢; exact hc)
  exact ⟨fun c hc => key (h.1 c hc), fun i hi => ⟨key (h.2 i hi).1, key (h.2 i hi).2⟩⟩

theorem abides_new {β : Type} {B : Nat} {J : β → World → Prop} (h : AbidesFrom B J) {s : β} {W W' : World} (hs : J s W) (hb : Below W.heap.size W W') : J s W' :=
  h s W W' none hs ⟨hb.os, hb.tape, hb.output, hb.size, fun k hk _ => hb.block k hk⟩ (fun r e => by cases e)

theorem cell_same {A B : World} {k : Nat} (h : B.heap[k]? = A.heap[k]?) (o : Nat) : B.cell? ⟨k, o, none⟩ = A.cell? ⟨k, o, none⟩ := by
  simp only [World.cell?, h]

/-- The piece that is open at a place. -/
def curOf (l : Str) (st : Int) (i : Nat) : Str := if st < 0 then [] else (l.drop st.toNat).take (i - st.toNat)

/-- A piece of a text of so many bytes at most. -/
abbrev Piece (M : Nat) := { x : Str // x.length ≤ M }
/-- Between two rounds of the iterator. -/
def SeqRel (M : Nat) (s : ByteArray) (N Bs : Nat) (W : World) (J : List (Piece M) → World → Prop) (st iv : Value) (wr : World) : Prop :=
  ∃ (z : Int) (i : Nat) (pre : List (Piece M)), st = .int .i64 z ∧ iv = .int .i64 i ∧ i ≤ s.size ∧ (-1 ≤ z ∧ z < i) ∧ pre.map (·.1) ++ fieldsFrom (curOf s.data.toList z i) (s.data.toList.drop i) = fieldsFrom [] s.data.toList ∧ pre.length ≤ i ∧ J pre wr ∧ KeepQ N Bs W wr
def seqLeft (s : ByteArray) (iv : Value) : Nat := s.size - (intOf iv).toNat

set_option maxRecDepth 100000 in
set_option maxHeartbeats 4000000 in
theorem seq1_in (M : Nat) (n : Nat) (hn : 1 ≤ n) (l N Bs : Nat) (s : ByteArray) (hs : s.size ≤ 4294967296) (hsM : s.size ≤ M) (w0 : World) (hN : w0.heap.size = N) (hR0 : RuneAt w0) (J Jx : List (Piece M) → World → Prop)
    (W : World) (hNB : N ≤ Bs) (hBW : Bs + 1 < W.heap.size) (hJ : AbidesFrom W.heap.size J) (hJx : AbidesFrom W.heap.size Jx)
    (hY : ∀ pre x W1, J pre W1 → pre.length < s.size + 1 → YieldAt Fence.wide (n - 1) Tryz.prog l #[.string ⟨x.1.toArray⟩] W1 fun e W' =>
      (e = .returned (.bool true) ∧ J (pre ++ [x]) W' ∧ KeepQ N Bs W1 W') ∨ (e = .returned (.bool false) ∧ Jx (pre ++ [x]) W'))
    (hk0 : ∀ k, k < N → W.heap[k]? = w0.heap[k]?) (hb1 : W.heap[Bs]? = some (.cells #[.string s] 9 (0, 0))) (hb2 : W.heap[Bs + 1]? = some (.cells #[.func (.func 66) #[] #[]] 121 (0, 0))) (h0 : J [] W) :
    CallsIn Fence.wide n Tryz.prog 94 #[.func (.yield l) #[] #[], .pointer (some ⟨Bs, 0, none⟩), .pointer (some ⟨Bs + 1, 0, none⟩)] W fun e W' => (∃ v, e = .returned v) ∧
      ((∃ ys : List (Piece M), ys.map (·.1) = fieldsFrom [] s.data.toList ∧ J ys W') ∨ (∃ pre : List (Piece M), pre.map (·.1) <+: fieldsFrom [] s.data.toList ∧ Jx pre W')) := by
  have hro : Fence.wide.round = none := rfl
  refine callsIn_of_wp Tryz.func94 rfl trivial ?_ hro
  simp only [Tryz.ntmps94, List.size_toArray, List.length_cons, List.length_nil, Nat.reduceAdd, Nat.reduceSub, Array.replicate_succ, Array.replicate_zero, List.push_toArray, List.append_toArray, List.nil_append, List.cons_append]
  gi_wp2
  gi_loopw [4, 5] (fun st iv wr => SeqRel M s N Bs W J st iv wr) (fun st iv wr => seqLeft s iv)
  case atStart => exact ⟨-1, 0, [], rfl, rfl, Nat.zero_le _, by omega, by simp [curOf], Nat.le_refl _, h0, KeepQ.refl _ _ _⟩
  case round =>
    obtain ⟨z, i, pre, rfl, rfl, hi, hz, hf, hpl, hJs, hkq⟩ := hrel
    have hsz : Bs + 1 < wr.heap.size := (Array.getElem?_eq_some_iff.1 (hkq.2.2.trans hb2)).1
    have hc1 : wr.cell? ⟨Bs, 0, none⟩ = some (.string s) := (cell_same hkq.2.1 0).trans (cell_of_row _ _ _ _ _ (0, 0) hb1)
    have hc2 : wr.cell? ⟨Bs + 1, 0, none⟩ = some (.func (.func 66) #[] #[]) := (cell_same hkq.2.2 0).trans (cell_of_row _ _ _ _ _ (0, 0) hb2)
    have HF := hide hf
    have HR := hide (runes_same hR0 (W := wr) (fun k hk => (hkq.1 k (by omega)).trans (hk0 k (by omega))))
    clear hf
    by_cases hlt : i < s.size
    · have hD := decodeGo_str s i hlt
      have hne : s.data.toList.drop i ≠ [] := by
        intro e
        have := congrArg List.length e
        rw [List.length_drop, ← Lib.size_eq] at this
        simp at this; omega
      obtain ⟨d1, d2, d3, hcase⟩ := dec_step _ hne
      have HD := hide (fun w h => Tryz.utf8_DecodeRuneInString (s.extract i s.size) w h)
      rw [hD] at HD
      have HC := hide hcase
      have HM := hide (isMark_any (Lib.decodeL (s.data.toList.drop i)).1 d3)
      rw [List.length_drop, ← Lib.size_eq] at d2
      clear hcase hD
      generalize Lib.decodeL (s.data.toList.drop i) = dd at *
      obtain ⟨r, sz⟩ := dd
      simp only at HD HC HM d1 d2 d3
      rcases HC.out with ⟨hm, hsz1, c, rr, hdr, hmc⟩ | ⟨hm, hmt⟩
      · rw [hm] at HM
        have HF' := HF.out
        rw [hdr, fieldsFrom, if_pos hmc] at HF'
        have hdr1 : s.data.toList.drop (i + 1) = rr := by
          have := congrArg (List.drop 1) hdr
          rwa [List.drop_drop, List.drop_one, List.tail_cons] at this
        have HZ := hide hsz1
        clear hsz1
        by_cases hz0 : z < 0
        · have hcur : curOf s.data.toList z i = [] := by unfold curOf; rw [if_pos hz0]
          rw [if_pos hcur, ← hdr1] at HF'
          have HG := hide (show pre.map (·.1) ++ fieldsFrom (curOf s.data.toList z (i + 1)) (s.data.toList.drop (i + 1)) = fieldsFrom [] s.data.toList by rw [show curOf s.data.toList z (i + 1) = [] by unfold curOf; rw [if_pos hz0]]; exact HF')
          clear HF' hcur hdr hdr1 HF HC
          gi_wp2_with (first | (refine ⟨trivial, ?_⟩; gi_at_call 95; refine (callsIn_wide.2 (HD.out _ HR.out)).mono ?_; rintro e w2 ⟨rfl, hx2⟩; have HB2 := hide hx2; have hc1' := cell_keeps hx2 hc1; have hc2' := cell_keeps hx2 hc2; clear hx2) | (refine ⟨trivial, ?_⟩; gi_at_call 66; refine (callsIn_wide.2 (HM.out _)).mono ?_; rintro e w3 ⟨rfl, hx3⟩; have HB3 := hide hx3; have hc1'' := cell_keeps hx3 hc1'; clear hx3))
          go_roundw
          case rel => exact ⟨z, i + 1, pre, rfl, by rw [HZ.out]; rfl, by omega, by omega, HG.out, by omega, abides_new hJ (abides_new hJ hJs HB2.out) HB3.out, (hkq.below (by omega) (by omega) HB2.out).below (by have := HB2.out.size; omega) (by have := HB2.out.size; omega) HB3.out⟩
          case measure => have := HZ.out; unfold seqLeft; simp only [intOf]; omega
        · obtain ⟨a, rfl⟩ := Int.eq_ofNat_of_zero_le (show 0 ≤ z by omega)
          have hcur : curOf s.data.toList (a : Int) i = (s.data.toList.drop a).take (i - a) := by unfold curOf; rw [if_neg hz0]; rfl
          have hcne : (s.data.toList.drop a).take (i - a) ≠ [] := by
            intro e
            have := congrArg List.length e
            rw [List.length_take, List.length_drop, ← Lib.size_eq] at this
            simp only [List.length_nil] at this
            omega
          rw [hcur, if_neg hcne, ← hdr1] at HF'
          have hxl : ((s.data.toList.drop a).take (i - a)).length ≤ M := by rw [List.length_take, List.length_drop, ← Lib.size_eq]; omega
          have HY := hide (fun W1 h => hY pre ⟨(s.data.toList.drop a).take (i - a), hxl⟩ W1 h (by omega))
          simp only at HY
          rw [← extract_mid] at HY
          have HG := hide (show (pre ++ [(⟨(s.data.toList.drop a).take (i - a), hxl⟩ : Piece M)]).map (·.1) ++ fieldsFrom (curOf s.data.toList (-1) (i + 1)) (s.data.toList.drop (i + 1)) = fieldsFrom [] s.data.toList by rw [show curOf s.data.toList (-1) (i + 1) = [] by unfold curOf; rw [if_pos (by decide)], List.map_append, List.append_assoc]; exact HF')
          generalize (⟨(s.data.toList.drop a).take (i - a), hxl⟩ : Piece M) = x at *
          clear HF' hcur hcne hdr hdr1 HF HC hY hxl
          gi_wp2_with (first | (refine ⟨trivial, ?_⟩; gi_at_call 95; refine (callsIn_wide.2 (HD.out _ HR.out)).mono ?_; rintro e w2 ⟨rfl, hx2⟩; have HB2 := hide hx2; have hc1' := cell_keeps hx2 hc1; have hc2' := cell_keeps hx2 hc2; clear hx2) | (refine ⟨trivial, ?_⟩; gi_at_call 66; refine (callsIn_wide.2 (HM.out _)).mono ?_; rintro e w3 ⟨rfl, hx3⟩; have HB3 := hide hx3; have hc1'' := cell_keeps hx3 hc1'; obtain ⟨fn, tmps, assign, body, hy, HRn⟩ := HY.out w3 (abides_new hJ (abides_new hJ hJs HB2.out) HB3.out); clear hx3))
          refine HRn.mono ?_
          rintro e W4 (⟨rfl, hJ4, hk4⟩ | ⟨rfl, hJx4⟩)
          · gi_wp2
            go_roundw
            case rel =>
              refine ⟨-1, i + 1, pre ++ [x], rfl, by rw [HZ.out]; rfl, by omega, by omega, HG.out, by simp; omega, hJ4, ((hkq.below (by omega) (by omega) HB2.out).below (by have := HB2.out.size; omega) (by have := HB2.out.size; omega) HB3.out).trans hk4⟩
            case measure => have := HZ.out; unfold seqLeft; simp only [intOf]; omega
          · gi_wp2
            refine bodyPost_ret (results_none rfl _ _ _) rfl ?_
            exact ⟨⟨_, rfl⟩, .inr ⟨pre ++ [x], ⟨_, HG.out⟩, hJx4⟩⟩
      · rw [hm] at HM
        have hspl : s.data.toList.drop i = (s.data.toList.drop i).take sz ++ s.data.toList.drop (i + sz) := by rw [← List.drop_drop, List.take_append_drop]
        have HF' := HF.out
        rw [hspl, fields_plain _ _ hmt] at HF'
        by_cases hz0 : z < 0
        · have hcur : curOf s.data.toList z i ++ (s.data.toList.drop i).take sz = curOf s.data.toList (i : Int) (i + sz) := by
            unfold curOf
            rw [if_pos hz0, if_neg (by omega), List.nil_append, Int.toNat_natCast, Nat.add_sub_cancel_left]
          rw [hcur] at HF'
          have HG := hide HF'
          clear HF' hcur hspl hmt HF HC
          gi_wp2_with (first | (refine ⟨trivial, ?_⟩; gi_at_call 95; refine (callsIn_wide.2 (HD.out _ HR.out)).mono ?_; rintro e w2 ⟨rfl, hx2⟩; have HB2 := hide hx2; have hc1' := cell_keeps hx2 hc1; have hc2' := cell_keeps hx2 hc2; clear hx2) | (refine ⟨trivial, ?_⟩; gi_at_call 66; refine (callsIn_wide.2 (HM.out _)).mono ?_; rintro e w3 ⟨rfl, hx3⟩; have HB3 := hide hx3; have hc1'' := cell_keeps hx3 hc1'; clear hx3))
          go_roundw
          case rel => exact ⟨(i : Int), i + sz, pre, rfl, rfl, by omega, by omega, HG.out, by omega, abides_new hJ (abides_new hJ hJs HB2.out) HB3.out, (hkq.below (by omega) (by omega) HB2.out).below (by have := HB2.out.size; omega) (by have := HB2.out.size; omega) HB3.out⟩
          case measure => unfold seqLeft; simp only [intOf]; omega
        · obtain ⟨a, rfl⟩ := Int.eq_ofNat_of_zero_le (show 0 ≤ z by omega)
          have hcur : curOf s.data.toList (a : Int) i ++ (s.data.toList.drop i).take sz = curOf s.data.toList (a : Int) (i + sz) := by
            unfold curOf
            rw [if_neg hz0, if_neg hz0, Int.toNat_natCast, show i + sz - a = (i - a) + sz by omega, List.take_add, List.drop_drop, show a + (i - a) = i by omega]
          rw [hcur] at HF'
          have HG := hide HF'
          clear HF' hcur hspl hmt HF HC
          gi_wp2_with (first | (refine ⟨trivial, ?_⟩; gi_at_call 95; refine (callsIn_wide.2 (HD.out _ HR.out)).mono ?_; rintro e w2 ⟨rfl, hx2⟩; have HB2 := hide hx2; have hc1' := cell_keeps hx2 hc1; have hc2' := cell_keeps hx2 hc2; clear hx2) | (refine ⟨trivial, ?_⟩; gi_at_call 66; refine (callsIn_wide.2 (HM.out _)).mono ?_; rintro e w3 ⟨rfl, hx3⟩; have HB3 := hide hx3; have hc1'' := cell_keeps hx3 hc1'; clear hx3))
          go_roundw
          case rel => exact ⟨(a : Int), i + sz, pre, rfl, rfl, by omega, by omega, HG.out, by omega, abides_new hJ (abides_new hJ hJs HB2.out) HB3.out, (hkq.below (by omega) (by omega) HB2.out).below (by have := HB2.out.size; omega) (by have := HB2.out.size; omega) HB3.out⟩
          case measure => unfold seqLeft; simp only [intOf]; omega
    · obtain rfl : i = s.size := by omega
      have HF' := HF.out
      rw [List.drop_eq_nil_of_le (by rw [← Lib.size_eq]; exact Nat.le_refl _), fieldsFrom] at HF'
      by_cases hz0 : z < 0
      · have hcur : curOf s.data.toList z s.size = [] := by unfold curOf; rw [if_pos hz0]
        rw [if_pos hcur, List.append_nil] at HF'
        have HG := hide HF'
        clear HF' HF hcur
        gi_wp2
        go_end0
        exact ⟨⟨_, rfl⟩, .inl ⟨pre, HG.out, hJs⟩⟩
      · obtain ⟨a, rfl⟩ := Int.eq_ofNat_of_zero_le (show 0 ≤ z by omega)
        have hcur : curOf s.data.toList (a : Int) s.size = s.data.toList.drop a := by
          unfold curOf
          rw [if_neg hz0, Int.toNat_natCast, List.take_of_length_le (by rw [List.length_drop, ← Lib.size_eq]; exact Nat.le_refl _)]
        have hcne : s.data.toList.drop a ≠ [] := by
          intro e
          have := congrArg List.length e
          rw [List.length_drop, ← Lib.size_eq] at this
          simp only [List.length_nil] at this
          omega
        rw [hcur, if_neg hcne] at HF'
        have HG := hide HF'
        have hxl : (s.data.toList.drop a).length ≤ M := by rw [List.length_drop, ← Lib.size_eq]; omega
        have HG := hide (show (pre ++ [(⟨s.data.toList.drop a, hxl⟩ : Piece M)]).map (·.1) = fieldsFrom [] s.data.toList by rw [List.map_append]; exact HG.out)
        obtain ⟨fn, tmps, assign, body, hy, HRn⟩ := hY pre ⟨s.data.toList.drop a, hxl⟩ wr hJs (by omega)
        simp only at hy
        rw [← extract_str] at hy
        generalize (⟨s.data.toList.drop a, hxl⟩ : Piece M) = x at *
        clear HF' HF hcur hcne hY hxl
        gi_wp2
        refine HRn.mono ?_
        rintro e W4 (⟨rfl, hJ4, hk4⟩ | ⟨rfl, hJx4⟩)
        · gi_wp2
          go_end0
          exact ⟨⟨_, rfl⟩, .inl ⟨pre ++ [x], HG.out, hJ4⟩⟩
        · gi_wp2
          go_end0
          exact ⟨⟨_, rfl⟩, .inr ⟨pre ++ [x], HG.out ▸ List.prefix_refl _, hJx4⟩⟩

theorem seq_stops (M : Nat) (n : Nat) (hn : 1 ≤ n) (N Bs : Nat) (s : ByteArray) (hs : s.size ≤ 4294967296) (hsM : s.size ≤ M) (w0 : World) (hN : w0.heap.size = N) (hR0 : RuneAt w0) (w : World) (hNB : N ≤ Bs) (hBW : Bs + 1 < w.heap.size)
    (hk0 : ∀ k, k < N → w.heap[k]? = w0.heap[k]?) (hb1 : w.heap[Bs]? = some (.cells #[.string s] 9 (0, 0))) (hb2 : w.heap[Bs + 1]? = some (.cells #[.func (.func 66) #[] #[]] 121 (0, 0))) :
    SeqStopsK Fence.wide n Tryz.prog 94 #[.pointer (some ⟨Bs, 0, none⟩), .pointer (some ⟨Bs + 1, 0, none⟩)] (fun x : Piece M => #[Value.string ⟨x.1.toArray⟩]) (KeepQ N Bs) (fun ys => ys.map (·.1) = fieldsFrom [] s.data.toList)
      (fun pre => pre.map (·.1) <+: fieldsFrom [] s.data.toList) (s.size + 1) w := fun l J Jx W hW hJ hJx hY h0 =>
  seq1_in M n hn l N Bs s hs hsM w0 hN hR0 J Jx W hNB (Nat.lt_of_lt_of_le hBW hW.size) hJ hJx hY (fun k hk => (hW.block k (by omega)).trans (hk0 k hk)) ((hW.block _ (by omega)).trans hb1) ((hW.block _ hBW).trans hb2) h0
end Go.Proofs.YtoekcfbjdcibpaaGreatDoor
