/-
  The law WordWith, walked.
-/
import Derived.Test.YtcgnkkkeoeoenaaDoorRefWith
import Derived.Test.YtcgnkkkeoeoenaaDoorNum
import Derived.Test.YtcgnkkkeoeoenaaDoorBytes
import Derived.Test.YtcgnkkkeoeoenaaDoorArrays
import Derived.Laws.IdiomStrings
import Derived.Lib.BufferRead
import Derived.Deep.Upon
namespace Go.Proofs.YtcgnkkkeoeoenaaDoor
open Go.RowKit
set_option linter.unusedVariables false

theorem box_at (w : World) (a b : Value) (t : TypeId) : (w.alloc (.cells #[a, b] t)).cell? ⟨w.heap.size, 0, none⟩ = some a ∧ (w.alloc (.cells #[a, b] t)).cell? ⟨w.heap.size, 1, none⟩ = some b := by
  rw [cell_of_row _ _ _ _ _ (0, 0) (heap_alloc_new w _), cell_of_row _ _ _ _ _ (0, 0) (heap_alloc_new w _)]
  exact ⟨rfl, rfl⟩

/-- What the string of a row is, in whatever later world. -/
theorem str_of_own {W W' : World} {base g N c : Nat} {l : List UInt8} (h : W.ownsRow base 5 1 (.slice (some ⟨g, 0, none⟩) N c) N (cellsB l)) (hl : l.length = N) (hg : g < W.heap.size) (hb : Below W.heap.size W W') :
    (convert 22 9 (.slice (some ⟨g, 0, none⟩) N c)).run Tryd.prog W' = .ok (.string ⟨l.toArray⟩) W' := by
  subst hl
  refine run_convert_bytes_back W' _ _ 5 ⟨g, 0, none⟩ c l Tryd.underlying22 Tryd.underlying5 Tryd.underlying9 ?_
  intro j hj
  rw [Addr.add_lit, Nat.zero_add]
  rw [hb.cell (p := ⟨g, j, none⟩) hg, h.cellAt j (by omega)]
  simp [cellsB, hj]

theorem str_of_cells {W' : World} {b off c : Nat} {l : List UInt8} (h : ∀ j u, (cellsB l)[j]? = some u → W'.cell? ⟨b, off + j, none⟩ = some u) :
    (convert 22 9 (.slice (some ⟨b, off, none⟩) l.length c)).run Tryd.prog W' = .ok (.string ⟨l.toArray⟩) W' := by
  refine run_convert_bytes_back W' _ _ 5 ⟨b, off, none⟩ c l Tryd.underlying22 Tryd.underlying5 Tryd.underlying9 ?_
  intro j hj
  rw [Addr.add_lit]
  exact h j _ (by simp [cellsB, hj])

theorem str_nil (W : World) (c : Nat) : (convert 22 9 (.slice none 0 c)).run Tryd.prog W = .ok (.string ⟨#[]⟩) W :=
  Lib.run_convert_nil_bytes W _ _ 5 c Tryd.underlying22 Tryd.underlying5 Tryd.underlying9
theorem str_empty (W : World) (a : Option Addr) (c : Nat) : (convert 22 9 (.slice a 0 c)).run Tryd.prog W = .ok (.string ⟨#[]⟩) W := by
  cases a with
  | none => exact str_nil W c
  | some ad => exact run_convert_bytes_back W _ _ 5 ad c [] Tryd.underlying22 Tryd.underlying5 Tryd.underlying9 (fun j hj => by simp at hj)

theorem own_src {w : World} {base : Nat} {e : TypeId} {g N c : Nat} {xs : List Value} (h : w.ownsRow base e 1 (.slice (some ⟨g, 0, none⟩) N c) N xs) : ∀ j u, xs[j]? = some u → w.cell? ⟨g, 0 + j, none⟩ = some u := by
  intro j u hj
  have hlt : j < xs.length := (List.getElem?_eq_some_iff.1 hj).1
  rw [h.1] at hlt
  rw [Nat.zero_add, h.cellAt j hlt]
  exact hj
theorem own_lt {w : World} {base : Nat} {e : TypeId} {g N c : Nat} {xs : List Value} (h : w.ownsRow base e 1 (.slice (some ⟨g, 0, none⟩) N c) N xs) : g < w.heap.size := by
  rcases h.2 with ⟨h', _⟩ | ⟨g', cap', cur, h', _, hg, _⟩
  · simp at h'
  · simp only [Value.slice.injEq, Option.some.injEq, Addr.mk.injEq, and_true, true_and] at h'
    obtain ⟨rfl, rfl⟩ := h'
    exact (Array.getElem?_eq_some_iff.1 hg).1
theorem src_below {w w' : World} {b off : Nat} {xs : List Value} (h : ∀ j u, xs[j]? = some u → w.cell? ⟨b, off + j, none⟩ = some u) {B : Nat} (hb : Below B w w') (hlt : b < B) : ∀ j u, xs[j]? = some u → w'.cell? ⟨b, off + j, none⟩ = some u :=
  fun j u hj => (hb.cell (p := ⟨b, off + j, none⟩) hlt).trans (h j u hj)

set_option maxHeartbeats 4000000 in
set_option maxRecDepth 100000 in
theorem withs_ok (b off cap : Nat) (l : List UInt8) (hpos : 0 < l.length) (hsmall : l.length ≤ 100000) (at_ n : Nat) (hn : n = 1 ∨ n = 2 ∨ n = 4) (hal : at_ % n = 0) (hfit : at_ + n ≤ l.length) (v : Nat) (hv : v < 4294967296) (w : World)
    (hsrc : ∀ j u, (cellsB l)[j]? = some u → w.cell? ⟨b, off + j, none⟩ = some u) (hb : b < w.heap.size) :
    Calls Tryd.prog 4 #[.slice (some ⟨b, off, none⟩) l.length cap, .agg #[.int .i64 at_, .int .i64 n], .int .u32 v] w fun e w' => e = .returned (.bool true) ∧ Below w.heap.size w w' := by
  obtain ⟨i0, hi, hz0, hz1, hz2⟩ := info_parts infoByte
  have HC := hide (cellsB_length l)
  have HW := hide (withTo_length l at_ v n)
  have hs0 : ∀ j u, (cellsB l)[j]? = some u → (w.alloc (.cells #[.int .i64 at_, .int .i64 n] 33)).cell? ⟨b, off + j, none⟩ = some u := fun j u hj => by
    rw [((Below.refl w.heap.size w).alloc (Nat.le_refl _) _).cell (p := ⟨b, off + j, none⟩) hb]; exact hsrc j u hj
  have hbx := box_at w (.int .i64 at_) (.int .i64 n) 33
  have hB0 : Below w.heap.size w (w.alloc (.cells #[.int .i64 at_, .int .i64 n] 33)) := (Below.refl _ w).alloc (Nat.le_refl _) _
  have hsz0 : (w.alloc (.cells #[.int .i64 at_, .int .i64 n] 33)).heap.size = w.heap.size + 1 := by simp
  have HWith := hide (fun (b' off' cap' : Nat) (w' : World) => with_ok b' off' cap' l at_ n hn hal hfit (by omega) v hv w')
  have HRef := hide (fun (b' off' cap' : Nat) (w' : World) => refwith_ok b' off' cap' l at_ n hn hal hfit (by omega) v hv w')
  have HStr := hide (fun (W' : World) (h : ∀ j u, (cellsB l)[j]? = some u → W'.cell? ⟨b, off + j, none⟩ = some u) => str_of_cells (c := cap) h)
  generalize hN : l.length = N at *
  have HN := hide hN
  obtain ⟨s2, hs2⟩ : ∃ s : ByteArray, s = ⟨(withTo l at_ v n).toArray⟩ := ⟨_, rfl⟩
  obtain ⟨s1, hs1⟩ : ∃ s : ByteArray, s = ⟨l.toArray⟩ := ⟨_, rfl⟩
  have HS2 := hide hs2
  have HS1 := hide hs1
  have HBX := hide hbx
  have HB0 := hide hB0
  have HSZ := hide hsz0
  have HS0 := hide hs0
  clear hN hn hal hfit hs2 hs1 hbx hB0 hsz0 hs0 hsrc
  go_enter Tryd.func4, Tryd.ntmps4
  go_wp2_with (first | (at_builtin; refine wpList_append_own _ rfl _ _ 22 rfl (w.heap.size + 1) 5 i0 (.int .u8 0) 1 1 Tryd.underlying22 hi hz0 hz1 hz2 rfl (by decide) _ 0 [] rfl (World.ownsRow_nil _ _ _ _) ⟨b, off, none⟩ N cap (cellsB l) rfl (by rw [HC.out]; omega) (fun j u hj => by rw [Addr.add_lit]; exact HS0.out j u hj) (cellsB_one l) (by unfold maxLen; omega) (by omega) (by rw [HSZ.out]; exact Nat.le_refl _) ?_; intro v1 w1 hown1 hgrow1 hnil1; clear hnil1; simp only [Nat.zero_add, List.nil_append] at hown1; obtain ⟨g1, c1, rfl, hbg1, hgl1⟩ := own_shape hown1 hpos; have hb1 := (Below.refl (w.heap.size + 1) (w.alloc (.cells #[.int .i64 at_, .int .i64 n] 33))).grown hgrow1 (by rw [HSZ.out]; exact Nat.le_refl _) (fun k e => by cases e); clear hgrow1; have x0 := (hb1.cell (p := ⟨w.heap.size, 0, none⟩) (by show w.heap.size < _; omega)).trans HBX.out.1; have x1 := (hb1.cell (p := ⟨w.heap.size, 1, none⟩) (by show w.heap.size < _; omega)).trans HBX.out.2; have HR1 := hide hown1; have HW1 := hide hb1; have hz1' : w.heap.size + 1 ≤ w1.heap.size := by have := hb1.size; rw [HSZ.out] at this; exact this) | (go_at_call 10; refine (HWith.out g1 0 c1 _ (own_src HR1.out) hgl1).mono ?_; rintro e w2 ⟨g2, rfl, hown2, hb2⟩; have y0 := (hb2.cell (p := ⟨w.heap.size, 0, none⟩) (by show w.heap.size < _; omega)).trans x0; have y1 := (hb2.cell (p := ⟨w.heap.size, 1, none⟩) (by show w.heap.size < _; omega)).trans x1; have HR2 := hide hown2; have HW2 := hide hb2; have hz2' := hb2.size; clear hown2 hb2) | (go_at_call 11; refine (HRef.out b off cap _ (src_below (src_below HS0.out HW1.out (by omega)) HW2.out (by omega)) (by omega)).mono ?_; rintro e w3 ⟨g3, c3, rfl, hown3, hb3⟩; have e1 := str_of_own HR2.out HW.out (own_lt HR2.out) hb3; have e2 := str_of_own hown3 HW.out (own_lt hown3) (Below.refl _ w3); rw [← HS2.out] at e1 e2; have HW3 := hide hb3; have hz3' := hb3.size; clear hown3 hb3) | (go_at_call 8; refine (num_nil _).mono ?_; rintro e w4 ⟨rfl, hb4⟩; have e3 := str_of_own HR1.out HN.out (own_lt HR1.out) ((HW2.out.trans (HW3.out.mono hz2')).trans (hb4.mono (Nat.le_trans hz2' hz3'))); have e4 := HStr.out w4 (src_below (src_below (src_below (src_below HS0.out HW1.out (by omega)) HW2.out (by omega)) HW3.out (by omega)) hb4 (by omega)); rw [← HS1.out] at e3 e4; have HW4 := hide hb4; have hz4' := hb4.size; clear hb4) | (go_at_call 9; refine (sure_any _).mono ?_; rintro e w5 ⟨rfl, hb5⟩))
  go_ret
  exact ⟨rfl, ((((HB0.out.trans (HW1.out.mono (by omega))).trans (HW2.out.mono (by omega))).trans (HW3.out.mono (by omega))).trans (HW4.out.mono (by omega))).trans (hb5.mono (by omega))⟩

theorem HandleAt.lt {w : World} (h : HandleAt w) : 0 < w.heap.size := by
  rcases Nat.lt_or_ge 0 w.heap.size with h' | h'
  · exact h'
  · simp [HandleAt, World.cell?, Array.getElem?_eq_none h'] at h
theorem HandleAt.below {w w' : World} {B : Nat} (h : HandleAt w) (hb : Below B w w') (hB : 0 < B) : HandleAt w' := (hb.cell (p := ⟨0, 0, none⟩) hB).trans h

set_option maxHeartbeats 4000000 in
set_option maxRecDepth 100000 in
theorem withs_bad (b off cap : Nat) (l : List UInt8) (hpos : 0 < l.length) (hsmall : l.length ≤ 100000) (a1 a2 : Int) (hcode : codeN l.length a1 a2 ≠ 0) (v : Int) (w : World)
    (hsrc : ∀ j u, (cellsB l)[j]? = some u → w.cell? ⟨b, off + j, none⟩ = some u) (hb : b < w.heap.size) (hg : HandleAt w) :
    Calls Tryd.prog 4 #[.slice (some ⟨b, off, none⟩) l.length cap, .agg #[.int .i64 a1, .int .i64 a2], .int .u32 v] w fun e w' => e = .returned (.bool true) ∧ Below w.heap.size w w' := by
  obtain ⟨i0, hi, hz0, hz1, hz2⟩ := info_parts infoByte
  have HC := hide (cellsB_length l)
  have HB0 := hide (show Below w.heap.size w (w.alloc (.cells #[.int .i64 a1, .int .i64 a2] 33)) from (Below.refl _ w).alloc (Nat.le_refl _) _)
  have HS0 := hide (src_below hsrc HB0.out hb)
  have HBX := hide (box_at w (.int .i64 a1) (.int .i64 a2) 33)
  have HSZ := hide (show (w.alloc (.cells #[.int .i64 a1, .int .i64 a2] 33)).heap.size = w.heap.size + 1 by simp)
  have HH := hide (hg.below HB0.out hg.lt)
  have hgl := hg.lt
  have HWith := hide (fun (a : Option Addr) (cap' : Nat) (w' : World) => with_bad a l.length cap' (by omega) a1 a2 hcode v w')
  have HRef := hide (fun (w' : World) => refwith_bad (some ⟨b, off, none⟩) l.length cap (by omega) a1 a2 hcode v w')
  have HStr := hide (fun (W' : World) (h : ∀ j u, (cellsB l)[j]? = some u → W'.cell? ⟨b, off + j, none⟩ = some u) => str_of_cells (c := cap) h)
  generalize codeN l.length a1 a2 = code at *
  generalize hN : l.length = N at *
  have HN := hide hN
  obtain ⟨s1, hs1⟩ : ∃ s : ByteArray, s = ⟨l.toArray⟩ := ⟨_, rfl⟩
  have HS1 := hide hs1
  have sn := str_nil
  clear hN hs1 hsrc hg hcode
  go_enter Tryd.func4, Tryd.ntmps4
  go_wp2_with (first | (at_builtin; refine wpList_append_own _ rfl _ _ 22 rfl (w.heap.size + 1) 5 i0 (.int .u8 0) 1 1 Tryd.underlying22 hi hz0 hz1 hz2 rfl (by decide) _ 0 [] rfl (World.ownsRow_nil _ _ _ _) ⟨b, off, none⟩ N cap (cellsB l) rfl (by rw [HC.out]; omega) (fun j u hj => by rw [Addr.add_lit]; exact HS0.out j u hj) (cellsB_one l) (by unfold maxLen; omega) (by omega) (by rw [HSZ.out]; exact Nat.le_refl _) ?_; intro v1 w1 hown1 hgrow1 hnil1; clear hnil1; simp only [Nat.zero_add, List.nil_append] at hown1; obtain ⟨g1, c1, rfl, hbg1, hgl1⟩ := own_shape hown1 hpos; have hb1 := (Below.refl (w.heap.size + 1) (w.alloc (.cells #[.int .i64 a1, .int .i64 a2] 33))).grown hgrow1 (by rw [HSZ.out]; exact Nat.le_refl _) (fun k e => by cases e); clear hgrow1; have x0 := (hb1.cell (p := ⟨w.heap.size, 0, none⟩) (by show w.heap.size < _; omega)).trans HBX.out.1; have x1 := (hb1.cell (p := ⟨w.heap.size, 1, none⟩) (by show w.heap.size < _; omega)).trans HBX.out.2; have HR1 := hide hown1; have HW1 := hide hb1; have hz1' : w.heap.size + 1 ≤ w1.heap.size := by have := hb1.size; rw [HSZ.out] at this; exact this) | (go_at_call 10; refine (HWith.out _ _ _).mono ?_; rintro e w2 ⟨rfl, rfl⟩) | (go_at_call 11; refine (HRef.out _).mono ?_; rintro e w3 ⟨rfl, rfl⟩) | (go_at_call 8; refine (num_err code _ (HandleAt.below HH.out HW1.out (by omega))).mono ?_; rintro e w4 ⟨rfl, hb4⟩; have e3 := str_of_own HR1.out HN.out (own_lt HR1.out) hb4; have e4 := HStr.out w4 (src_below (src_below HS0.out HW1.out (by omega)) hb4 (by omega)); rw [← HS1.out] at e3 e4; have HW4 := hide hb4; have hz4' := hb4.size; clear hb4) | (go_at_call 9; refine (sure_any _).mono ?_; rintro e w5 ⟨rfl, hb5⟩))
  go_ret
  exact ⟨rfl, ((HB0.out.trans (HW1.out.mono (by omega))).trans (HW4.out.mono (by omega))).trans (hb5.mono (by omega))⟩

theorem wpList_append_nothing {P : Program} (w : World) {ops : Array Oper} {rest : List Oper} {o : Oper} {a : Act} {Q : Exit → Act → World → Prop} (hgd : o.guard = none) (s x : Operand) (t : TypeId)
    (ho : o.op = .call { callee := .builtin .append, args := #[s, x], argTypes := #[t, t] }) (e : TypeId) (i : TypeInfo) (ht : P.underlying t = some (.slice e)) (hi : P.info? e = some i)
    (xa : Option Addr) (xc : Nat) (hs : a.eval s = .slice none 0 0) (hx : a.eval x = .slice xa 0 xc) (h : wpList P ops Q rest (a.put o.dst (.slice none 0 0)) w) : wpList P ops Q (o :: rest) a w := by
  refine wpList_plain hgd fun K hK => ?_
  have hsrc : Src P i.size t (.slice xa 0 xc) 0 [] w := by
    cases xa with
    | none => exact Src.ofNil w ht xc
    | some ad => exact Src.ofSlice w ht ad 0 xc [] (by simp) (fun j u hj => by simp at hj) (fun u hu => by cases hu)
  have hrun := run_append_nothing (P := P) w t t o.type e i ht hi none 0 0 (Nat.le_refl _) (.slice xa 0 xc) hsrc
  unfold Oper.wp
  simp [execOp, ho, resolve, invoke, builtin, hs, hx, hrun, Result.andThen]
  exact hK _ _ h

set_option maxHeartbeats 4000000 in
set_option maxRecDepth 100000 in
theorem withs_empty (a : Option Addr) (cap : Nat) (a1 a2 : Int) (v : Int) (w : World) (hg : HandleAt w) :
    Calls Tryd.prog 4 #[.slice a 0 cap, .agg #[.int .i64 a1, .int .i64 a2], .int .u32 v] w fun e w' => e = .returned (.bool true) ∧ Below w.heap.size w w' := by
  obtain ⟨i0, hi, hz0, hz1, hz2⟩ := info_parts infoByte
  have hcode : codeN ((0 : Nat) : Int) a1 a2 ≠ 0 := by
    unfold codeN
    split
    · omega
    · split
      · omega
      · omega
  have HB0 := hide (show Below w.heap.size w (w.alloc (.cells #[.int .i64 a1, .int .i64 a2] 33)) from (Below.refl _ w).alloc (Nat.le_refl _) _)
  have hbx := box_at w (.int .i64 a1) (.int .i64 a2) 33
  have HH := hide (hg.below HB0.out hg.lt)
  have HWith := hide (fun (w' : World) => with_bad none 0 0 (by omega) a1 a2 hcode v w')
  have HRef := hide (fun (w' : World) => refwith_bad a 0 cap (by omega) a1 a2 hcode v w')
  generalize codeN ((0 : Nat) : Int) a1 a2 = code at *
  have sn := fun W => str_empty W a cap
  have sn2 := str_nil
  clear hg hcode
  go_enter Tryd.func4, Tryd.ntmps4
  go_wp2_with (first | (at_builtin; refine wpList_append_nothing _ rfl _ _ 22 rfl 5 i0 Tryd.underlying22 hi _ _ rfl rfl ?_) | (go_at_call 10; refine (HWith.out _).mono ?_; rintro e w2 ⟨rfl, rfl⟩) | (go_at_call 11; refine (HRef.out _).mono ?_; rintro e w3 ⟨rfl, rfl⟩) | (go_at_call 8; refine (num_err code _ HH.out).mono ?_; rintro e w4 ⟨rfl, hb4⟩; have HW4 := hide hb4; have hz4' := hb4.size; clear hb4) | (go_at_call 9; refine (sure_any _).mono ?_; rintro e w5 ⟨rfl, hb5⟩))
  go_ret
  have hs := HB0.out.size
  exact ⟨rfl, (HB0.out.trans (HW4.out.mono hs)).trans (hb5.mono (Nat.le_trans hs hz4'))⟩

set_option maxHeartbeats 1000000 in
theorem withs_great (a : Option Addr) (len cap : Nat) (hbig : 100000 < len) (a1 a2 : Int) (v : Int) (w : World) :
    Calls Tryd.prog 4 #[.slice a len cap, .agg #[.int .i64 a1, .int .i64 a2], .int .u32 v] w fun e w' => e = .returned (.bool true) ∧ Below w.heap.size w w' := by
  have HB0 := hide (show Below w.heap.size w (w.alloc (.cells #[.int .i64 a1, .int .i64 a2] 33)) from (Below.refl _ w).alloc (Nat.le_refl _) _)
  go_enter Tryd.func4, Tryd.ntmps4
  go_wp2_with (first | (go_at_call 9; refine (sure_any _).mono ?_; rintro e w5 ⟨rfl, hb5⟩))
  go_ret
  exact ⟨rfl, HB0.out.trans (hb5.mono HB0.out.size)⟩
end Go.Proofs.YtcgnkkkeoeoenaaDoor
