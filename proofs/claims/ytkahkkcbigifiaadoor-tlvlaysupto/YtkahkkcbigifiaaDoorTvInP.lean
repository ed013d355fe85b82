/-
  tlv's In: NewIn, N, Run, Done.
-/
import Derived.Test.YtkahkkcbigifiaaDoorTvFndP
import Derived.Test.YtkahkkcbigifiaaDoorTvRows
import Derived.Test.YtkahkkcbigifiaaDoorTvIn
namespace Go.Proofs.YtkahkkcbigifiaaDoor
open Go.RowKit
set_option linter.unusedVariables false
set_option linter.unusedSimpArgs false

variable {P : Program} {ops : Array Oper} {rest : List Oper} {dst : Option Tmp} {ty t t2 : TypeId} {pos : String} {after : Array Edge} {a : Act} {w : World} {Q : Exit → Act → World → Prop} {K : Act → World → Prop} {x y z : Operand} {gd : Option (Nat × Bool)}
theorem size_sl : (Tryd.prog.info? 26).map (·.size) = some 1 := by kernel_rfl
theorem size_er : (Tryd.prog.info? 28).map (·.size) = some 1 := by kernel_rfl
/-- An In at p: what is left lies in blocks below p. -/
def InP (p : Nat) (w : World) (i : InS) : Prop := ∃ u, RowAt w p #[u, errS i.err] 95 ∧ Rd p w u i.b
theorem InP.row {p : Nat} {w : World} {i : InS} (h : InP p w i) : p < w.heap.size := by
  obtain ⟨u, hr, _⟩ := h
  exact hr.lt
theorem InP.bl {p : Nat} {w W : World} {i : InS} (h : InP p w i) (hb : Below w.heap.size w W) : InP p W i := by
  have hp := h.row
  obtain ⟨u, hr, hd⟩ := h
  exact ⟨u, hr.bl hb, hd.bel (hb.mono (Nat.le_of_lt hp))⟩
theorem Hole.only {p : Nat} {w W : World} (ho : Only p w W) : Hole p (p + 1) w W := by
  have hb := ho.bel 0 w (Nat.zero_le _) (Below.refl 0 w)
  exact ⟨hb.os, hb.tape, hb.output, by rw [ho.size]; exact Nat.le_refl _, fun k _ hc => ho.row k (by omega)⟩
theorem ld_p0 {p : Nat} {u e : Value} {t' : TypeId} (hr : RowAt w p #[u, e] t') (hx : a.eval x = .pointer (some ⟨p, 0, none⟩)) (k : wpList Tryd.prog ops Q rest (a.put dst u) w) : wpList Tryd.prog ops Q (⟨dst, .load 26 x, ty, pos, after, none⟩ :: rest) a w :=
  op_load_cell p 0 hx _ u _ hr rfl _ Tryd.underlying26 rfl k
theorem ld_p1 {p : Nat} {u e : Value} {t' : TypeId} (hr : RowAt w p #[u, e] t') (hx : a.eval x = .pointer (some ⟨p, 1, none⟩)) (hw : Region.wanted ⟨dst, .load 28 x, ty, pos, after, gd⟩ (yielded ops a.tmps) = true) (k : wpList Tryd.prog ops Q rest (a.put dst e) w) : wpList Tryd.prog ops Q (⟨dst, .load 28 x, ty, pos, after, gd⟩ :: rest) a w :=
  BigFrame.wpList_want hw fun K hK => by
    have hcell : w.cell? ⟨p, 1, none⟩ = some e := (hr.cell 1).trans rfl
    have hrun : (loadVar 28 ⟨p, 1, none⟩).run Tryd.prog w = .ok e w := by
      have hagg : (isAgg 28).run Tryd.prog w = .ok false w := by
        unfold isAgg
        rw [Sem.run_bind, run_underlying Tryd.underlying28 w]
        rfl
      simp [loadVar, Sem.run_bind, hagg, hcell]
    unfold Oper.wp execOp
    simp only [hx, Instr.loadAt, Instr.sureAddr, Sem.run_bind, Sem.run_pure, Result.andThen_ok, hrun]
    exact hK _ _ k
theorem st_p0 {p : Nat} {u e : Value} {t' : TypeId} (ad : Option Addr) (n cap : Nat) (hr : RowAt w p #[u, e] t') (hx : a.eval x = .pointer (some ⟨p, 0, none⟩)) (hy : a.eval y = .slice ad n cap) (k : ∀ W, RowAt W p #[.slice ad n cap, e] t' → Only p w W → wpList Tryd.prog ops Q rest (a.put dst undef) W) : wpList Tryd.prog ops Q (⟨dst, .store 26 x y, ty, pos, after, none⟩ :: rest) a w :=
  op_store_cell p 0 hx (.slice ad n cap) hy _ #[.slice ad n cap, e] _ hr size_sl (show 0 < 2 by decide) rfl rfl k
theorem st_p1 {p : Nat} {u e : Value} {t' : TypeId} (c : Int) (hr : RowAt w p #[u, e] t') (hx : a.eval x = .pointer (some ⟨p, 1, none⟩)) (hy : a.eval y = .iface 80 (.int .i64 c)) (k : ∀ W, RowAt W p #[u, .iface 80 (.int .i64 c)] t' → Only p w W → wpList Tryd.prog ops Q rest (a.put dst undef) W) : wpList Tryd.prog ops Q (⟨dst, .store 28 x y, ty, pos, after, none⟩ :: rest) a w :=
  op_store_cell p 1 hx (.iface 80 (.int .i64 c)) hy _ #[u, .iface 80 (.int .i64 c)] _ hr size_er (show 1 < 2 by decide) rfl rfl k
def firstE (l : List Nat) (n : Int) : Nat := if n < 1 ∨ 8 < n then 1 else if (l.length : Int) < n then 12 else 0
set_option maxRecDepth 100000 in
set_option maxHeartbeats 4000000 in
theorem first_bad {B : Nat} {v : Value} {l : List Nat} (w : World) (h : Rd B w v l) (n : Int) (he : firstE l n ≠ 0) :
    Calls Tryd.prog 49 #[v, .int .i64 n] w fun e w' => e = .returned (.tuple #[.int .u64 0, .iface 80 (.int .i64 (firstE l n : Nat))]) ∧ w' = w := by
  obtain ⟨ad, cap, rfl, hcap, hmax⟩ := h.form
  by_cases h1 : n < 1 ∨ 8 < n
  · have HE := hide (show firstE l n = 1 by rw [firstE, if_pos h1])
    rw [HE.out]
    clear h he HE
    generalize l.length = m at *
    by_cases h2 : n < 1
    · clear h1
      go_enter Tryd.func49, Tryd.ntmps49
      go_wp2
      go_ret2
      exact ⟨rfl, rfl⟩
    · have h3 : 8 < n := by omega
      clear h1
      go_enter Tryd.func49, Tryd.ntmps49
      go_wp2
      go_ret2
      exact ⟨rfl, rfl⟩
  · have h2 : (l.length : Int) < n := by
      by_cases hq : (l.length : Int) < n
      · exact hq
      · exact absurd (by rw [firstE, if_neg h1, if_neg hq]) he
    have HE := hide (show firstE l n = 12 by rw [firstE, if_neg h1, if_pos h2])
    have h3 : 1 ≤ n := by omega
    have h4 : n ≤ 8 := by omega
    rw [HE.out]
    clear h he HE h1
    generalize l.length = m at *
    go_enter Tryd.func49, Tryd.ntmps49
    go_wp2
    go_ret2
    exact ⟨rfl, rfl⟩
set_option maxRecDepth 100000 in
set_option maxHeartbeats 4000000 in
theorem first_ok {B : Nat} {v : Value} {l : List Nat} (w : World) (h : Rd B w v l) (m : Nat) (h1 : 1 ≤ m) (h8 : m ≤ 8) (hm : m ≤ l.length) :
    Calls Tryd.prog 49 #[v, .int .i64 (m : Nat)] w fun e w' => e = .returned (.tuple #[.int .u64 (numL (l.take m) : Nat), .nilIface]) ∧ w' = w := by
  obtain ⟨ad, cap, rfl, hcap, hmax⟩ := h.form
  have HR := hide h
  have HM := hide hm
  have HT := hide (h.to hm)
  have HN := hide (number_any w HT.out (by rw [List.length_take]; omega))
  obtain ⟨n, hn⟩ : ∃ q, l.length = q := ⟨_, rfl⟩
  rw [hn] at hcap hm HR HN ⊢
  clear h hn
  generalize numL (l.take m) = z at *
  go_enter Tryd.func49, Tryd.ntmps49
  go_wp2_with (first | ((with_reducible refine g_to HR.out m HM.out und_sl siz_sl ?_ ?_ ?_ ?_); exact rfl; exact rfl; exact rfl) | (go_at_call 44; (with_reducible refine (HN.out).mono ?_); rintro e w1 ⟨rfl, rfl⟩))
  go_ret2
  exact ⟨rfl, rfl⟩
def frE (l : List Nat) (most : Int) : Nat := if most < 0 then 1 else if l.length < 4 then 12 else if most < (numL (l.take 4) : Int) then 2 else if l.length - 4 < numL (l.take 4) then 12 else 0
theorem u64_nat {z : Int} (h0 : 0 ≤ z) (h1 : z ≤ 9223372036854775807) : IntKind.u64.wrap z = z := by rw [IntKind.wrap_u64]; omega
theorem g_frmE {B : Nat} {w0 : World} {v v' : Value} {l : List Nat} (h : Rd B w0 v l) (n : Nat) (he : sFrom v n = v') (hn : n ≤ l.length) (ht : P.underlying t = some (.slice (P.elem t))) (hs : ∀ w, (sizeOf (P.elem t)).run P w = .ok 1 w) (hx : a.eval x = v) (hy : a.eval y = .int .i64 (n : Nat)) (hw : Region.wanted ⟨dst, .slice t x (some y) none none, ty, pos, after, gd⟩ (yielded ops a.tmps) = true)
    (k : wpList P ops Q rest (a.put dst v') w) : wpList P ops Q (⟨dst, .slice t x (some y) none none, ty, pos, after, gd⟩ :: rest) a w := by
  subst he
  exact g_frm h n hn ht hs hx hy hw k
set_option maxRecDepth 100000 in
set_option maxHeartbeats 4000000 in
theorem fr_bad {B : Nat} {v : Value} {l : List Nat} (w : World) (h : Rd B w v l) (most : Int) (hm63 : most ≤ 9223372036854775807) (he : frE l most ≠ 0) :
    Calls Tryd.prog 48 #[v, .int .i64 most] w fun e w' => e = .returned (.tuple #[.slice none 0 0, .iface 80 (.int .i64 (frE l most : Nat))]) ∧ w' = w := by
  obtain ⟨ad, cap, rfl, hcap, hmax⟩ := h.form
  have HR := hide h
  by_cases h0 : most < 0
  · have HE := hide (show frE l most = 1 by rw [frE, if_pos h0])
    rw [HE.out]
    clear h he HE HR
    generalize l.length = m at *
    go_enter Tryd.func48, Tryd.ntmps48
    go_wp2
    go_ret2
    exact ⟨rfl, rfl⟩
  by_cases h4 : l.length < 4
  · have HE := hide (show frE l most = 12 by rw [frE, if_neg h0, if_pos h4])
    have h12 : firstE l 4 = 12 := by rw [firstE, if_neg (by omega), if_pos (by omega)]
    have HF := hide (first_bad w h 4 (by rw [h12]; decide))
    rw [h12] at HF
    rw [HE.out]
    clear h he HE h12 HR
    generalize l.length = m at *
    go_enter Tryd.func48, Tryd.ntmps48
    go_wp2_with (first | (go_at_call 49; (with_reducible refine (HF.out).mono ?_); rintro e w1 ⟨rfl, rfl⟩))
    go_ret2
    exact ⟨rfl, rfl⟩
  have HF := hide (show Calls Tryd.prog 49 #[.slice ad l.length cap, .int .i64 4] w fun e w' => e = .returned (.tuple #[.int .u64 (numL (l.take 4) : Nat), .nilIface]) ∧ w' = w from first_ok w h 4 (by decide) (by decide) (by omega))
  have H4 := hide (show 4 ≤ l.length by omega)
  have hx := (le4 (l := l.take 4) (take_lt h.lt 4) (by rw [List.length_take]; omega)).2
  obtain ⟨z, hz⟩ : ∃ q, numL (l.take 4) = q := ⟨_, rfl⟩
  rw [hz] at HF hx
  have hwr := u64_nat (z := most) (by omega) hm63
  by_cases h2 : most < (z : Int)
  · have HE := hide (show frE l most = 2 by rw [frE, if_neg h0, if_neg h4, hz, if_pos h2])
    rw [HE.out]
    obtain ⟨m, hm⟩ : ∃ q, l.length = q := ⟨_, rfl⟩
    rw [hm] at HF HR hcap h4 ⊢
    clear h he HE hm hz
    go_enter Tryd.func48, Tryd.ntmps48
    go_wp2_with (first | (go_at_call 49; (with_reducible refine (HF.out).mono ?_); rintro e w1 ⟨rfl, rfl⟩))
    go_ret2
    exact ⟨rfl, rfl⟩
  · have h3 : l.length - 4 < z := by
      by_cases hq : l.length - 4 < z
      · exact hq
      · exact absurd (by rw [frE, if_neg h0, if_neg h4, hz, if_neg h2, if_neg hq]) he
    have HE := hide (show frE l most = 12 by rw [frE, if_neg h0, if_neg h4, hz, if_neg h2, if_pos h3])
    rw [HE.out]
    obtain ⟨m, hm⟩ : ∃ q, l.length = q := ⟨_, rfl⟩
    rw [hm] at HF HR hcap h4 h3 ⊢
    have h44 : 4 ≤ m := by omega
    have h33 : m < 4 + z := by omega
    obtain ⟨af, cf, hvF, _, _⟩ := (HR.out.frm (n := 4) H4.out).form
    rw [List.length_drop, hm] at hvF
    have HVF := hide hvF
    clear h he HE hm hz hvF h3
    go_enter Tryd.func48, Tryd.ntmps48
    go_wp2_with (first | (go_at_call 49; (with_reducible refine (HF.out).mono ?_); rintro e w1 ⟨rfl, rfl⟩) | ((with_reducible refine g_frmE HR.out 4 HVF.out H4.out und_sl siz_sl ?_ ?_ ?_ ?_); exact rfl; exact rfl; exact rfl))
    go_ret2
    exact ⟨rfl, rfl⟩
theorem g_toU {B : Nat} {w0 : World} {v : Value} {l : List Nat} (h : Rd B w0 v l) (n : Nat) (hn : n ≤ l.length) (ht : P.underlying t = some (.slice (P.elem t))) (hs : ∀ w, (sizeOf (P.elem t)).run P w = .ok 1 w) (hx : a.eval x = v) (hy : a.eval y = .int .u64 (n : Nat)) (hw : Region.wanted ⟨dst, .slice t x none (some y) none, ty, pos, after, gd⟩ (yielded ops a.tmps) = true)
    (k : wpList P ops Q rest (a.put dst (sTo v n)) w) : wpList P ops Q (⟨dst, .slice t x none (some y) none, ty, pos, after, gd⟩ :: rest) a w :=
  BigFrame.wpList_want hw fun K hK => by
    obtain ⟨ad, cap, rfl, h3, h4⟩ := h.form
    unfold Oper.wp execOp
    simp only [hx, hy, Option.map_some, Option.map_none, Sem.run_bind, Sem.run_pure, run_sliceAt_slice w t _ _ _ _ ht, run_slice_h w t ad l.length cap ht .u64 (n : Nat) (by omega) (by omega), hs, Result.andThen_ok, sliced]
    have e : (Value.slice (if (0 : Nat) = 0 ∨ True then ad else ad) n cap) = sTo (.slice ad l.length cap) n := by cases ad <;> rfl
    refine hK _ _ ?_
    cases ad <;> simpa [sTo, Addr.add_zero'] using k
set_option maxRecDepth 100000 in
set_option maxHeartbeats 4000000 in
theorem fr_ok {B : Nat} {v : Value} {l : List Nat} (w : World) (h : Rd B w v l) (most : Int) (hm63 : most ≤ 9223372036854775807) (z : Nat) (hz : numL (l.take 4) = z) (he : frE l most = 0) :
    Calls Tryd.prog 48 #[v, .int .i64 most] w fun e w' => ∃ u, e = .returned (.tuple #[u, .nilIface]) ∧ Rd B w u ((l.drop 4).take z) ∧ w' = w := by
  obtain ⟨ad, cap, rfl, hcap, hmax⟩ := h.form
  have HR := hide h
  unfold frE at he
  split at he
  · cases he
  rename_i h0
  split at he
  · cases he
  rename_i h4
  split at he
  · cases he
  rename_i h2
  split at he
  · cases he
  rename_i h3
  have HF := hide (show Calls Tryd.prog 49 #[.slice ad l.length cap, .int .i64 4] w fun e w' => e = .returned (.tuple #[.int .u64 (numL (l.take 4) : Nat), .nilIface]) ∧ w' = w from first_ok w h 4 (by decide) (by decide) (by omega))
  have H4 := hide (show 4 ≤ l.length by omega)
  have hx := (le4 (l := l.take 4) (take_lt h.lt 4) (by rw [List.length_take]; omega)).2
  rw [hz] at HF hx h2 h3
  have hwr := u64_nat (z := most) (by omega) hm63
  have HF4 := hide (h.frm (n := 4) H4.out)
  have HZ := hide (show z ≤ (l.drop 4).length by rw [List.length_drop]; omega)
  have HRES := hide (HF4.out.to HZ.out)
  obtain ⟨m, hm⟩ : ∃ q, l.length = q := ⟨_, rfl⟩
  obtain ⟨af, cf, hvF, _, _⟩ := HF4.out.form
  rw [List.length_drop] at hvF
  rw [hm] at HF HR HF4 HRES hcap h4 h3 hvF ⊢
  have h44 : 4 ≤ m := by omega
  have h33 : 4 + z ≤ m := by omega
  have HVF := hide hvF
  rw [hvF] at HF4 HRES
  clear h he hm hz hvF h3
  go_enter Tryd.func48, Tryd.ntmps48
  go_wp2_with (first | (go_at_call 49; (with_reducible refine (HF.out).mono ?_); rintro e w1 ⟨rfl, rfl⟩) | ((with_reducible refine g_frmE HR.out 4 HVF.out H4.out und_sl siz_sl ?_ ?_ ?_ ?_); exact rfl; exact rfl; exact rfl) | ((with_reducible refine g_toU HF4.out z HZ.out und_sl siz_sl ?_ ?_ ?_ ?_); exact rfl; exact rfl; exact rfl))
  go_ret2
  exact ⟨_, rfl, HRES.out, rfl⟩
set_option maxRecDepth 100000 in
set_option maxHeartbeats 4000000 in
theorem newIn_any {B : Nat} {v : Value} {l : List Nat} (w : World) (h : Rd B w v l) (hB : B ≤ w.heap.size) (hn : l.length ≤ 140737488355328) :
    Calls Tryd.prog 20 #[v] w fun e w' => ∃ p, e = .returned (.pointer (some ⟨p, 0, none⟩)) ∧ w.heap.size ≤ p ∧ w'.heap.size = p + 1 ∧ InP p w' ⟨l, 0⟩ ∧ Below w.heap.size w w' := by
  have HC := hide (clone_any w h hB hn)
  obtain ⟨ad, cap, rfl, hcap, hmax⟩ := h.form
  clear h
  go_enter Tryd.func20, Tryd.ntmps20
  go_wp2_with (first | (go_at_call 41; (with_reducible refine (HC.out).mono ?_); rintro e W ⟨u, rfl, hown, hb⟩; obtain ⟨au, cu, rfl, _, _⟩ := hown.rd.form; obtain ⟨NX, hNX0⟩ : ∃ n, W.heap.size = n := ⟨_, rfl⟩; have hNX := hide hNX0; have hx0 : w.heap.size ≤ NX := hNX0 ▸ hb.size; have hrd := hown.rd; rw [hNX0] at hrd; have HRD := hide hrd; clear hNX0 hrd) | ((with_reducible refine op_boxT NX ?_ (#[.slice au l.length cu, .nilIface] : Array Value) ?_ ?_); exact hNX.out; exact rfl; intro W2 hr hb2 hz))
  go_ret
  exact ⟨NX, rfl, hx0, hz.out, ⟨_, hr, HRD.out.bel hb2⟩, hb.trans (hb2.mono hx0)⟩
set_option maxRecDepth 100000 in
set_option maxHeartbeats 4000000 in
theorem inN_any (p : Nat) (i : InS) (w : World) (h : InP p w i) (n : Int) (most : Nat) (hmost : most < 18446744073709551616) :
    Calls Tryd.prog 24 #[.pointer (some ⟨p, 0, none⟩), .int .i64 n, .int .u64 (most : Nat)] w fun e w' => e = .returned (.int .u64 ((takeN i n most).2 : Nat)) ∧ InP p w' (takeN i n most).1 ∧ Hole p (p + 1) w w' ∧ w'.heap.size = w.heap.size := by
  obtain ⟨l, er⟩ := i
  obtain ⟨u, hr, hR⟩ := h
  obtain ⟨ad, cap, rfl, hcap, hmax⟩ := hR.form
  have HR := hide hR
  simp only at hr hcap
  by_cases he : er ≠ 0
  · rw [takeN_eq, if_pos he]
    have hes : errS er = .iface 80 (.int .i64 (er : Nat)) := if_neg he
    have HES := hide hes
    rw [hes] at hr
    clear hes he hR
    go_enter Tryd.func24, Tryd.ntmps24
    go_wp2_with (first | ((with_reducible refine ld_p1 hr ?_ ?_ ?_); exact rfl; exact rfl))
    go_ret
    exact ⟨rfl, ⟨_, by rw [show (InS.mk l er).err = er from rfl, HES.out]; exact hr, HR.out⟩, Hole.refl _ _ _, rfl⟩
  · obtain rfl : er = 0 := by omega
    rw [show errS 0 = Value.nilIface from rfl] at hr
    by_cases hbad : firstE l n ≠ 0
    · have HF := hide (first_bad w hR n hbad)
      have HT := hide (show takeN ⟨l, 0⟩ n most = (⟨l, firstE l n⟩, 0) by
        rw [takeN_eq, if_neg he]
        unfold firstE at hbad ⊢
        by_cases h1 : n < 1 ∨ 8 < n
        · rw [if_pos h1, if_pos h1]
        · rw [if_neg h1] at hbad ⊢
          rw [if_neg h1]
          by_cases h2 : (l.length : Int) < n
          · rw [if_pos h2, if_pos h2]
          · rw [if_neg h2] at hbad; exact absurd rfl hbad)
      rw [HT.out]
      have HBAD := hide hbad
      obtain ⟨fe, hfe⟩ : ∃ q, firstE l n = q := ⟨_, rfl⟩
      rw [hfe] at HF HBAD ⊢
      clear HT hbad he hR hfe
      go_enter Tryd.func24, Tryd.ntmps24
      go_wp2_with (first | ((with_reducible refine ld_p1 hr ?_ ?_ ?_); exact rfl; exact rfl) | ((with_reducible refine ld_p0 hr ?_ ?_); exact rfl) | (go_at_call 49; (with_reducible refine (HF.out).mono ?_); rintro e w1 ⟨rfl, rfl⟩) | ((with_reducible refine st_p1 (fe : Nat) hr ?_ ?_ ?_); exact rfl; exact rfl; intro W hnew ho; have hho := Hole.only ho; have hsz := ho.size; have hrd2 := HR.out.only ho (Nat.le_refl _); replace hr := hnew; clear hnew ho))
      go_ret
      exact ⟨rfl, ⟨_, by rw [show (InS.mk l fe).err = fe from rfl, errS, if_neg HBAD.out]; exact hr, hrd2⟩, hho, hsz⟩
    · have hfe : firstE l n = 0 := by omega
      have hnn : ¬ (n < 1 ∨ 8 < n) ∧ ¬ (l.length : Int) < n := by
        unfold firstE at hfe
        by_cases h1 : n < 1 ∨ 8 < n
        · rw [if_pos h1] at hfe; cases hfe
        · rw [if_neg h1] at hfe
          by_cases h2 : (l.length : Int) < n
          · rw [if_pos h2] at hfe; cases hfe
          · exact ⟨h1, h2⟩
      obtain ⟨m, rfl⟩ := Int.eq_ofNat_of_zero_le (show 0 ≤ n by omega)
      have hm1 : 1 ≤ m := by omega
      have hm8 : m ≤ 8 := by omega
      have hml : m ≤ l.length := by omega
      have HML := hide hml
      have HN := hide (first_ok w hR m hm1 hm8 hml)
      have hx := num_64' (l := l.take m) (take_lt hR.lt m) (by rw [List.length_take]; omega)
      have HT := hide (show takeN ⟨l, 0⟩ (m : Nat) most = if most < numL (l.take m) then (⟨l, 4⟩, 0) else (⟨l.drop m, 0⟩, numL (l.take m)) by
        rw [takeN_eq, if_neg he, if_neg hnn.1, if_neg hnn.2, Int.toNat_natCast])
      obtain ⟨z, hz⟩ : ∃ q, numL (l.take m) = q := ⟨_, rfl⟩
      rw [hz] at HN hx HT
      clear hbad he hfe hnn hz
      by_cases hgt : most < z
      · rw [HT.out, if_pos hgt]
        clear HT hR
        go_enter Tryd.func24, Tryd.ntmps24
        go_wp2_with (first | ((with_reducible refine ld_p1 hr ?_ ?_ ?_); exact rfl; exact rfl) | ((with_reducible refine ld_p0 hr ?_ ?_); exact rfl) | (go_at_call 49; (with_reducible refine (HN.out).mono ?_); rintro e w1 ⟨rfl, rfl⟩) | ((with_reducible refine st_p1 4 hr ?_ ?_ ?_); exact rfl; exact rfl; intro W hnew ho; have hho := Hole.only ho; have hsz := ho.size; have hrd2 := HR.out.only ho (Nat.le_refl _); replace hr := hnew; clear hnew ho))
        go_ret
        exact ⟨rfl, ⟨_, hr, hrd2⟩, hho, hsz⟩
      · rw [HT.out, if_neg hgt]
        have hle : z ≤ most := by omega
        have HF := hide (HR.out.frm HML.out)
        obtain ⟨af, cf, hvF, _, _⟩ := HF.out.form
        rw [List.length_drop] at hvF
        have HVF := hide hvF
        rw [hvF] at HF
        have HR1 := hide hR
        obtain ⟨ll, hll⟩ : ∃ q, l.length = q := ⟨_, rfl⟩
        rw [hll] at hr hcap HF HVF HR1 HN hml
        clear HT hR hvF hgt hll
        go_enter Tryd.func24, Tryd.ntmps24
        go_wp2_with (first | ((with_reducible refine ld_p1 hr ?_ ?_ ?_); exact rfl; exact rfl) | ((with_reducible refine ld_p0 hr ?_ ?_); exact rfl) | (go_at_call 49; (with_reducible refine (HN.out).mono ?_); rintro e w1 ⟨rfl, rfl⟩) | ((with_reducible refine g_frmE HR1.out m HVF.out HML.out und_sl siz_sl ?_ ?_ ?_ ?_); exact rfl; exact rfl; exact rfl) | ((with_reducible refine st_p0 af (ll - m) cf hr ?_ ?_ ?_); exact rfl; exact rfl; intro W hnew ho; have hho := Hole.only ho; have hsz := ho.size; have hrd2 := HF.out.only ho (Nat.le_refl _); replace hr := hnew; clear hnew ho))
        go_ret
        exact ⟨rfl, ⟨_, hr, hrd2⟩, hho, hsz⟩
set_option maxRecDepth 100000 in
set_option maxHeartbeats 4000000 in
theorem inR_any (p : Nat) (i : InS) (w : World) (h : InP p w i) (hn : i.b.length ≤ 140737488355328) (most : Int) (hm63 : most ≤ 9223372036854775807) :
    Calls Tryd.prog 22 #[.pointer (some ⟨p, 0, none⟩), .int .i64 most] w fun e w' => ∃ v', e = .returned v' ∧ Rd w'.heap.size w' v' (takeR i most).2 ∧ InP p w' (takeR i most).1 ∧ Hole p (p + 1) w w' := by
  obtain ⟨l, er⟩ := i
  obtain ⟨u, hr, hR⟩ := h
  obtain ⟨ad, cap, rfl, hcap, hmax⟩ := hR.form
  have HR := hide hR
  simp only at hr hcap hn
  by_cases he : er ≠ 0
  · rw [takeR_eq, if_pos he]
    have hes : errS er = .iface 80 (.int .i64 (er : Nat)) := if_neg he
    have HES := hide hes
    rw [hes] at hr
    clear hes he hR
    go_enter Tryd.func22, Tryd.ntmps22
    go_wp2_with (first | ((with_reducible refine ld_p1 hr ?_ ?_ ?_); exact rfl; exact rfl))
    go_ret
    exact ⟨_, rfl, Rd.nil _ _, ⟨_, by rw [show (InS.mk l er).err = er from rfl, HES.out]; exact hr, HR.out⟩, Hole.refl _ _ _⟩
  · obtain rfl : er = 0 := by omega
    rw [show errS 0 = Value.nilIface from rfl] at hr
    by_cases hbad : frE l most ≠ 0
    · have HF := hide (fr_bad w hR most hm63 hbad)
      have HT := hide (show takeR ⟨l, 0⟩ most = (⟨l, frE l most⟩, []) by
        rw [takeR_eq, if_neg he]
        unfold frE at hbad ⊢
        by_cases h1 : most < 0
        · rw [if_pos h1, if_pos h1]
        · rw [if_neg h1] at hbad ⊢
          rw [if_neg h1]
          by_cases h2 : l.length < 4
          · rw [if_pos h2, if_pos h2]
          · rw [if_neg h2] at hbad ⊢
            rw [if_neg h2]
            by_cases h3 : most < (numL (l.take 4) : Int)
            · rw [if_pos h3, if_pos h3]
            · rw [if_neg h3] at hbad ⊢
              rw [if_neg h3]
              by_cases h4 : l.length - 4 < numL (l.take 4)
              · rw [if_pos h4, if_pos h4]
              · rw [if_neg h4] at hbad; exact absurd rfl hbad)
      rw [HT.out]
      have HBAD := hide hbad
      obtain ⟨fe, hfe⟩ : ∃ q, frE l most = q := ⟨_, rfl⟩
      rw [hfe] at HF HBAD ⊢
      clear HT hbad he hR hfe
      go_enter Tryd.func22, Tryd.ntmps22
      go_wp2_with (first | ((with_reducible refine ld_p1 hr ?_ ?_ ?_); exact rfl; exact rfl) | ((with_reducible refine ld_p0 hr ?_ ?_); exact rfl) | (go_at_call 48; (with_reducible refine (HF.out).mono ?_); rintro e w1 ⟨rfl, rfl⟩) | ((with_reducible refine st_p1 (fe : Nat) hr ?_ ?_ ?_); exact rfl; exact rfl; intro W hnew ho; have hho := Hole.only ho; have hsz := ho.size; have hrd2 := HR.out.only ho (Nat.le_refl _); replace hr := hnew; clear hnew ho))
      go_ret
      exact ⟨_, rfl, Rd.nil _ _, ⟨_, by rw [show (InS.mk l fe).err = fe from rfl, errS, if_neg HBAD.out]; exact hr, hrd2⟩, hho⟩
    · have hfe : frE l most = 0 := by omega
      obtain ⟨z, hz⟩ : ∃ q, numL (l.take 4) = q := ⟨_, rfl⟩
      have HF := hide (fr_ok w hR most hm63 z hz hfe)
      have hnn : ¬ most < 0 ∧ ¬ l.length < 4 ∧ ¬ most < (z : Int) ∧ ¬ l.length - 4 < z := by
        unfold frE at hfe
        rw [hz] at hfe
        split at hfe
        · cases hfe
        rename_i h0
        split at hfe
        · cases hfe
        rename_i h4
        split at hfe
        · cases hfe
        rename_i h2
        split at hfe
        · cases hfe
        rename_i h3
        exact ⟨h0, h4, h2, h3⟩
      have HT := hide (show takeR ⟨l, 0⟩ most = (⟨l.drop (4 + z), 0⟩, (l.drop 4).take z) by
        rw [takeR_eq, if_neg he, hz, if_neg hnn.1, if_neg hnn.2.1, if_neg hnn.2.2.1, if_neg hnn.2.2.2])
      have hx : z ≤ l.length := by omega
      have hml : 4 + z ≤ l.length := by omega
      have HML := hide hml
      have HZL := hide (show ((l.drop 4).take z).length = z by rw [List.length_take, List.length_drop]; omega)
      have HF2 := hide (HR.out.frm HML.out)
      obtain ⟨af, cf, hvF, _, _⟩ := HF2.out.form
      rw [List.length_drop] at hvF
      have HVF := hide hvF
      rw [hvF] at HF2
      have HCL := hide (fun (W : World) (a9 : Option Addr) (c9 : Nat) (hRd : Rd p W (.slice a9 z c9) ((l.drop 4).take z)) hp => clone_any W hRd hp (by rw [HZL.out]; omega))
      have HR1 := hide hR
      obtain ⟨ll, hll⟩ : ∃ q, l.length = q := ⟨_, rfl⟩
      rw [hll] at hr hcap HF HF2 HVF HR1 hml hx hn
      rw [HT.out]
      clear HT hR hvF hbad he hfe hnn hll hz
      go_enter Tryd.func22, Tryd.ntmps22
      go_wp2_with (first | ((with_reducible refine ld_p1 hr ?_ ?_ ?_); exact rfl; exact rfl) | ((with_reducible refine ld_p0 hr ?_ ?_); exact rfl) | (go_at_call 48; (with_reducible refine (HF.out).mono ?_); rintro e w1 ⟨uu, rfl, hruu, rfl⟩; obtain ⟨a9, c9, hv9, _, _⟩ := hruu.form; rw [HZL.out] at hv9; subst hv9; have HRUU := hide hruu; clear hruu) | ((with_reducible refine g_frmE HR1.out (4 + z) HVF.out HML.out und_sl siz_sl ?_ ?_ ?_ ?_); exact rfl; exact congrArg (Value.int .i64) (by omega); exact rfl) | ((with_reducible refine st_p0 af (ll - (4 + z)) cf hr ?_ ?_ ?_); exact rfl; exact rfl; intro W hnew ho; have hho := Hole.only ho; have hsz := ho.size; have hrd2 := HF2.out.only ho (Nat.le_refl _); have HR9 := hide (HRUU.out.only ho (Nat.le_refl _)); have hp9 : p ≤ W.heap.size := Nat.le_of_lt hnew.lt; replace hr := hnew; clear hnew ho) | (go_at_call 41; (with_reducible refine (HCL.out _ _ _ HR9.out hp9).mono ?_); rintro e W8 ⟨v8, rfl, hown, hb8⟩))
      go_ret
      exact ⟨_, rfl, hown.rd, ⟨_, hr.bl hb8, hrd2.bel (hb8.mono hp9)⟩, hho.trans (Hole.of hb8)⟩
set_option maxRecDepth 100000 in
set_option maxHeartbeats 4000000 in
theorem inD_any (p : Nat) (i : InS) (w : World) (h : InP p w i) :
    Calls Tryd.prog 25 #[.pointer (some ⟨p, 0, none⟩)] w fun e w' => e = .returned (errS (doneE i)) ∧ w' = w := by
  obtain ⟨l, er⟩ := i
  obtain ⟨u, hr, hR⟩ := h
  obtain ⟨ad, cap, rfl, hcap, hmax⟩ := hR.form
  simp only at hr hcap
  by_cases he : er ≠ 0
  · have hes : errS er = .iface 80 (.int .i64 (er : Nat)) := if_neg he
    rw [show doneE ⟨l, er⟩ = er from if_neg (fun h => he h.1), hes]
    rw [hes] at hr
    clear hes he hR
    go_enter Tryd.func25, Tryd.ntmps25
    go_wp2_with (first | ((with_reducible refine ld_p1 hr ?_ ?_ ?_); exact rfl; exact rfl) | ((with_reducible refine ld_p0 hr ?_ ?_); exact rfl))
    go_ret
    exact ⟨rfl, rfl⟩
  · obtain rfl : er = 0 := by omega
    rw [show errS 0 = Value.nilIface from rfl] at hr
    by_cases h0 : 0 < l.length
    · rw [show doneE ⟨l, 0⟩ = 3 from if_pos ⟨rfl, h0⟩, show errS 3 = .iface 80 (.int .i64 3) from rfl]
      clear he hR
      generalize l.length = m at *
      go_enter Tryd.func25, Tryd.ntmps25
      go_wp2_with (first | ((with_reducible refine ld_p1 hr ?_ ?_ ?_); exact rfl; exact rfl) | ((with_reducible refine ld_p0 hr ?_ ?_); exact rfl))
      go_ret
      exact ⟨rfl, rfl⟩
    · rw [show doneE ⟨l, 0⟩ = 0 from if_neg (fun h => h0 h.2), show errS 0 = Value.nilIface from rfl]
      have h00 : l.length = 0 := by omega
      clear he hR h0
      rw [h00] at hr
      go_enter Tryd.func25, Tryd.ntmps25
      go_wp2_with (first | ((with_reducible refine ld_p1 hr ?_ ?_ ?_); exact rfl; exact rfl) | ((with_reducible refine ld_p0 hr ?_ ?_); exact rfl))
      go_ret
      exact ⟨rfl, rfl⟩
theorem nilN_any (n : Int) (most : Nat) (w : World) : Calls Tryd.prog 24 #[.pointer none, .int .i64 n, .int .u64 (most : Nat)] w fun e w' => e = .returned (.int .u64 0) ∧ w' = w := by
  go_enter Tryd.func24, Tryd.ntmps24
  go_wp2
  go_ret
  exact ⟨rfl, rfl⟩
theorem nilR_any (most : Int) (w : World) : Calls Tryd.prog 22 #[.pointer none, .int .i64 most] w fun e w' => e = .returned (.slice none 0 0) ∧ w' = w := by
  go_enter Tryd.func22, Tryd.ntmps22
  go_wp2
  go_ret
  exact ⟨rfl, rfl⟩
theorem nilD_any (w : World) : Calls Tryd.prog 25 #[.pointer none] w fun e w' => e = .returned (.iface 80 (.int .i64 1)) ∧ w' = w := by
  go_enter Tryd.func25, Tryd.ntmps25
  go_wp2
  go_ret
  exact ⟨rfl, rfl⟩
end Go.Proofs.YtkahkkcbigifiaaDoor
