/-
  The document's Tail and Cut.
-/
import Derived.Test.YtnokcfaipbolkaaDoorSmRef
import Derived.Test.YtnokcfaipbolkaaDoorSmCut
import Derived.Great.Walk
namespace Go.Proofs.YtnokcfaipbolkaaDoor
open Go.RowKit
set_option linter.unusedVariables false
set_option linter.unusedSimpArgs false

variable {P : Program} {ops : Array Oper} {rest : List Oper} {dst : Option Tmp} {ty t t2 : TypeId} {pos : String} {after : Array Edge} {a : Act} {w : World} {Q : Exit → Act → World → Prop} {K : Act → World → Prop} {x y : Operand} {gd : Option (Nat × Bool)}
structure BuiltR (P : Program) (e : TypeId) (n : Nat) (L : List (Nat × Value)) (C : Array Value) : Prop where
  h : P.builtSlice e n L = some C
theorem wp_bs {parts : Array (Nat × Operand)} (t e : TypeId) (n : Nat) (hu : P.underlying t = some (.slice e)) (C : Array Value) (N : Nat) (hN : w.heap.size = N) (L : List (Nat × Value)) (hL : (parts.map fun p => (p.1, a.eval p.2)).toList = L) (hf : BuiltR P e n L C)
    (k : ∀ W, RowAt W N C e → Below N w W → Hid (W.heap.size = N + 1) → K (a.put dst (.slice (some ⟨N, 0, none⟩) n n)) W) :
    Oper.wp P ⟨dst, .buildSlice t n parts, ty, pos, after, none⟩ a w K Q := by
  subst hN hL
  replace hf := hf.h
  unfold Program.builtSlice at hf
  cases hie : P.info? e with
  | none => simp [hie] at hf
  | some ie =>
    simp only [hie] at hf
    cases hz : ie.zero with
    | none => simp [hz] at hf
    | some z =>
      simp only [hz] at hf
      by_cases hc : n * ie.size > 2 ^ 24 ∨ n * ie.size = 0
      · simp [hc] at hf
      · rw [if_neg hc] at hf
        exact wp_buildSlice t e n parts rfl C ie z hu hie hz (fun h' => hc (Or.inl h')) (fun h' => hc (Or.inr h')) hf (k _ (RowAt.new w _ C e rfl) (below_one w _) (hide (by simp)))
theorem op_bs {parts : Array (Nat × Operand)} (t e : TypeId) (n : Nat) (hu : P.underlying t = some (.slice e)) (C : Array Value) (N : Nat) (hN : w.heap.size = N) (L : List (Nat × Value)) (hL : (parts.map fun p => (p.1, a.eval p.2)).toList = L) (hf : BuiltR P e n L C)
    (k : ∀ W, RowAt W N C e → Below N w W → Hid (W.heap.size = N + 1) → wpList P ops Q rest (a.put dst (.slice (some ⟨N, 0, none⟩) n n)) W) :
    wpList P ops Q (⟨dst, .buildSlice t n parts, ty, pos, after, none⟩ :: rest) a w :=
  wpList_plain rfl fun K hK => wp_bs t e n hu C N hN L hL hf fun W h1 h2 h3 => hK _ _ (k W h1 h2 h3)
/-- append of bytes that can be read. -/
theorem wp_app {B C : Nat} {e : TypeId} (i : TypeInfo) (ht : P.underlying t = some (.slice e)) (hi : P.info? e = some i) (hz : i.zero = some (.int .u8 0)) (hs : i.size = 1) (hb : i.bytes = 1) {v u : Value} {l m : List Nat} (ho : Own B e w v l) (h : Rd C w u m) (hn : l.length + m.length ≤ 140737488355328) (hB : B ≤ w.heap.size) (hx : a.eval x = v) (hy : a.eval y = u)
    (k : ∀ W v', Own B e W v' (l ++ m) → w.grownBy W v.ownBlock → K (a.put dst v') W) :
    Oper.wp P ⟨dst, .call { callee := .builtin .append, args := #[x, y], argTypes := #[t, t] }, t, pos, after, none⟩ a w K Q := by
  obtain ⟨v', W, h1, h2, h3⟩ := ex_app (P := P) (dst := dst) (pos := pos) (after := after) (gd := none) i ht hi hz hs hb ho h hn hB hx hy
  unfold Oper.wp
  rw [h1, Oper.upon_value]
  exact k W v' h2 h3
theorem op_app {B C : Nat} {e : TypeId} (i : TypeInfo) (ht : P.underlying t = some (.slice e)) (hi : P.info? e = some i) (hz : i.zero = some (.int .u8 0)) (hs : i.size = 1) (hb : i.bytes = 1) {v u : Value} {l m : List Nat} (ho : Own B e w v l) (h : Rd C w u m) (hn : l.length + m.length ≤ 140737488355328) (hB : B ≤ w.heap.size) (hx : a.eval x = v) (hy : a.eval y = u)
    (k : ∀ W v', Own B e W v' (l ++ m) → w.grownBy W v.ownBlock → wpList P ops Q rest (a.put dst v') W) :
    wpList P ops Q (⟨dst, .call { callee := .builtin .append, args := #[x, y], argTypes := #[t, t] }, t, pos, after, none⟩ :: rest) a w :=
  wpList_plain rfl fun K hK => wp_app i ht hi hz hs hb ho h hn hB hx hy fun W v' h1 h2 => hK _ _ (k W v' h1 h2)
theorem Own.grown {B N : Nat} {e : TypeId} {w w0 W : World} {v : Value} {l : List Nat} (h : Own B e w v l) (hg : w.grownBy W v.ownBlock) (hb : Below N w0 w) (hN : N ≤ w.heap.size) (hB : N ≤ B) : Below N w0 W :=
  hb.grown hg hN fun k hk => Nat.le_trans hB (h.row.lt k hk).1
theorem rd_new {e : TypeId} (W : World) (cs : Array Value) (l : List Nat) (h : cs = (byV l).toArray) (hl : ∀ x ∈ l, x < 256) (n : Nat) (hn : l.length = n) (hm : n ≤ 9223372036854775807) : Rd (W.alloc (.cells cs e)).heap.size (W.alloc (.cells cs e)) (.slice (some ⟨W.heap.size, 0, none⟩) n n) l := by
  subst h
  exact rd_row (RowAt.new W W.heap.size _ e rfl) hl n hn hm
theorem bs4 (z0 z1 z2 z3 : Int) : BuiltR Tryd.prog 5 4 [(0, .int .u8 z0), (1, .int .u8 z1), (2, .int .u8 z2), (3, .int .u8 z3)] #[.int .u8 z0, .int .u8 z1, .int .u8 z2, .int .u8 z3] := ⟨by kernel_rfl⟩
set_option maxHeartbeats 2000000 in
theorem rtail_any {B : Nat} {v : Value} {l : List Nat} (w : World) (h : Rd B w v l) (hB : B ≤ w.heap.size) (hn : l.length ≤ 100000) :
    Calls Tryd.prog 16 #[v] w fun e w' => ∃ v', e = .returned v' ∧ Own w.heap.size 5 w' v' (l ++ tail4 (sumL l)) ∧ Below w.heap.size w w' := by
  obtain ⟨i0, hi0, hz0, hs0, hb0⟩ := info_u8
  have HI := hide hi0
  have HZ := hide hz0
  have HS := hide hs0
  have HB := hide hb0
  clear hi0 hz0 hs0 hb0
  have hsum := sumL_lt l
  have HO := hide (fun w h => rof_any (B := B) (v := v) (l := l) w h)
  have HR := hide h
  have HT4 := hide (tail4_lt hsum)
  have HN := hide hn
  generalize hs : sumL l = s at *
  have HTE := hide (show #[Value.int .u8 ((s : Int) / 16777216), .int .u8 ((s : Int) / 65536 % 256), .int .u8 ((s : Int) / 256 % 256), .int .u8 ((s : Int) % 256)] = (byV (tail4 s)).toArray by simp [byV, tail4])
  clear h hs hn
  have hb : Below w.heap.size w w := Below.refl _ w
  have HNL := hide (Own.nil w.heap.size 5 w)
  have HTL := hide (show (tail4 s).length = 4 from rfl)
  go_enter Tryd.func16, Tryd.ntmps16
  go_wp2_with (first | (go_at_call 10; (with_reducible refine (HO.out _ HR.out).mono ?_); rintro e w1 ⟨rfl, rfl⟩) | ((with_reducible refine op_app i0 Tryd.underlying23 HI.out HZ.out HS.out HB.out HNL.out HR.out ?_ ?_ ?_ ?_ ?_); (have := HN.out; simp; omega); exact Nat.le_refl _; exact rfl; exact rfl; intro W vq hown hgr; replace hb := hb.grown hgr (Nat.le_refl _) (fun k hk => by cases hk); rw [List.nil_append] at hown; have HW := hide hown; clear hown hgr; obtain ⟨NX, hNX0⟩ : ∃ n, W.heap.size = n := ⟨_, rfl⟩; have hNX := hide hNX0; have hx0 : w1.heap.size ≤ NX := hNX0 ▸ hb.size; clear hNX0) | ((with_reducible refine op_app i0 Tryd.underlying23 HI.out HZ.out HS.out HB.out (HW.out.bl (below_one _ _)) (rd_new _ _ _ HTE.out HT4.out 4 HTL.out (by decide)) ?_ ?_ ?_ ?_ ?_); (have := HN.out; rw [HTL.out]; omega); (have := hb.size; simp; omega); exact rfl; exact rfl; intro W3 vr hown hgr; replace hb := (HW.out.bl (below_one _ _)).grown hgr (hb.trans ((below_one _ _).mono hb.size)) (by have := hb.size; simp; omega) (Nat.le_refl _)))
  go_ret
  exact ⟨_, rfl, hown, hb⟩
theorem und_str : Tryd.prog.underlying 9 = some .string := by kernel_rfl
/-- A string held against another one. -/
theorem ex_sneq (s u : ByteArray) (hx : a.eval x = .string s) (hy : a.eval y = .string u) (w : World) :
    (execOp a.eval ⟨dst, .binOp .neq 9 x y t2, ty, pos, after, gd⟩).run Tryd.prog w = .ok (.value (.bool (!(s.toList == u.toList)))) w := by
  unfold execOp
  simp only [hx, hy]
  go_simp
theorem ex_seq (s u : ByteArray) (hx : a.eval x = .string s) (hy : a.eval y = .string u) (w : World) :
    (execOp a.eval ⟨dst, .binOp .eql 9 x y t2, ty, pos, after, gd⟩).run Tryd.prog w = .ok (.value (.bool (s.toList == u.toList))) w := by
  unfold execOp
  simp only [hx, hy]
  go_simp
set_option maxHeartbeats 2000000 in
theorem rcut_short {B : Nat} {v : Value} {l : List Nat} (w : World) (h : Rd B w v l) (hn : l.length < 4) :
    Calls Tryd.prog 14 #[v] w fun e w' => e = .returned (.tuple #[.slice none 0 0, .int .i64 12]) ∧ w' = w := by
  obtain ⟨ad, cap, rfl, hcap, hmax⟩ := h.form
  clear h
  generalize l.length = n at *
  go_enter Tryd.func14, Tryd.ntmps14
  go_wp2
  go_ret2
  exact ⟨rfl, rfl⟩
def RCutAns (B : Nat) (w : World) (l : List Nat) (e : Ending) (w' : World) : Prop :=
  (okL l = true ∧ ∃ v', e = .returned (.tuple #[v', .int .i64 0]) ∧ Rd B w' v' (l.take (l.length - 4)) ∧ Below w.heap.size w w') ∨
  (okL l = false ∧ e = .returned (.tuple #[.slice none 0 0, .int .i64 11]) ∧ Below w.heap.size w w')
theorem ok_whole (l : List Nat) (m : Nat) (hm : l.length = m + 4) : okL l = decide (l.take m ++ tail4 (sumL (l.take m)) = l) := by
  unfold okL
  rw [hm, Nat.add_sub_cancel]
  have h4 : decide (4 ≤ m + 4) = true := by simp
  rw [h4, Bool.true_and]
  by_cases h : l.drop m = tail4 (sumL (l.take m))
  · rw [decide_eq_true h, decide_eq_true (by rw [← h, List.take_append_drop])]
  · rw [decide_eq_false h, decide_eq_false]
    intro h2
    apply h
    have h3 := congrArg (List.drop m) h2
    have e : (l.take m).length = m := by rw [List.length_take]; omega
    rw [List.drop_append, e, Nat.sub_self, List.drop_zero, List.drop_eq_nil_of_le (by omega), List.nil_append] at h3
    exact h3.symm
set_option maxHeartbeats 2000000 in
theorem rcut_long {B : Nat} {v : Value} {l : List Nat} (w : World) (h : Rd B w v l) (hB : B ≤ w.heap.size) (m : Nat) (hm : l.length = m + 4) (hn : m ≤ 100000) :
    Calls Tryd.prog 14 #[v] w fun e w' => RCutAns B w l e w' := by
  have hTo := h.to (n := m) (by omega)
  have hTl : (l.take m).length = m := by rw [List.length_take]; omega
  have HOK := hide (ok_whole l m hm)
  have HTK := hide (show l.take (l.length - 4) = l.take m by rw [hm, Nat.add_sub_cancel])
  have HO := hide (fun w v h hB => rtail_any (B := B) (v := v) (l := l.take m) w h hB (by omega))
  have HR := hide h
  have HLT := hide h.lt
  have HTO := hide hTo
  obtain ⟨ad, cap, hv, hcap, hmax⟩ := h.form
  rw [hm] at hv hcap
  subst hv
  have hM0 : m ≤ l.length := by omega
  have HM := hide hM0
  clear hTo hTl h hM0 hm
  unfold RCutAns
  rw [HTK.out, HOK.out]
  generalize hl2 : l.take m ++ tail4 (sumL (l.take m)) = l2 at *
  clear hl2
  have hb : Below w.heap.size w w := Below.refl _ w
  go_enter Tryd.func14, Tryd.ntmps14
  go_wp2
  refine wp_region_held_drew (S := (fun U => Below w.heap.size w U)) (by kernel_rfl) ?_ (fun hHeld => ?_)
  · exact hb.drew
  generalize w.drew = V at hHeld ⊢
  refine wpAnyH_take (i := 0) (oi := ?oi1) (v := .slice ad (m + 4) cap) ?hi1 (by kernel_rfl) (by kernel_rfl) (by kernel_rfl) ?hQ1 ?hy1 (by assumption) ?rest1
  case hi1 => (simp only [List.getElem?_toArray, List.getElem?_cons_zero]; rfl)
  case hQ1 => exact fun _ _ _ h => h
  case hy1 => exact Or.inl ⟨by rfl, by (intro w hSw; (try dsimp only at hSw); go_simp )⟩
  simp only [Act.put, List.setIfInBounds_toArray, List.set_cons_zero, List.set_cons_succ]
  refine wpAnyH_take (i := 1) (oi := ?oi2) (v := .slice ad (m + 4) cap) ?hi2 (by kernel_rfl) (by kernel_rfl) (by kernel_rfl) ?hQ2 ?hy2 (by assumption) ?rest2
  case hi2 => (simp only [List.getElem?_toArray, List.getElem?_cons_zero, List.getElem?_cons_succ]; rfl)
  case hQ2 => exact fun _ _ _ h => h
  case hy2 => exact Or.inl ⟨by rfl, by (intro w hSw; (try dsimp only at hSw); go_simp )⟩
  simp only [Act.put, List.setIfInBounds_toArray, List.set_cons_zero, List.set_cons_succ]
  refine wpAnyH_take (i := 2) (oi := ?oi3) (v := .int .i64 ((m : Int) + 4)) ?hi3 (by kernel_rfl) (by kernel_rfl) (by kernel_rfl) ?hQ3 ?hy3 (by assumption) ?rest3
  case hi3 => (simp only [List.getElem?_toArray, List.getElem?_cons_zero, List.getElem?_cons_succ]; rfl)
  case hQ3 => exact fun _ _ _ h => h
  case hy3 => exact Or.inl ⟨by rfl, by (intro w hSw; (try dsimp only at hSw); go_simp )⟩
  simp only [Act.put, List.setIfInBounds_toArray, List.set_cons_zero, List.set_cons_succ]
  refine wpAnyH_take (i := 3) (oi := ?oi4) (v := .int .i64 (m : Nat)) ?hi4 (by kernel_rfl) (by kernel_rfl) (by kernel_rfl) ?hQ4 ?hy4 (by assumption) ?rest4
  case hi4 => (simp only [List.getElem?_toArray, List.getElem?_cons_zero, List.getElem?_cons_succ]; rfl)
  case hQ4 => exact fun _ _ _ h => h
  case hy4 => exact Or.inl ⟨by rfl, by (intro w hSw; (try dsimp only at hSw); go_simp ; exact i64_in _ (by omega) (by omega))⟩
  simp only [Act.put, List.setIfInBounds_toArray, List.set_cons_zero, List.set_cons_succ]
  refine wpAnyH_take (i := 4) (oi := ?oi5) (v := .slice ad m cap) ?hi5 (by kernel_rfl) (by kernel_rfl) (by kernel_rfl) ?hQ5 ?hy5 (by assumption) ?rest5
  case hi5 => (simp only [List.getElem?_toArray, List.getElem?_cons_zero, List.getElem?_cons_succ]; rfl)
  case hQ5 => exact fun _ _ _ h => h
  case hy5 => exact Or.inl ⟨by rfl, fun V hV => ex_to HR.out HM.out und_sl siz_sl rfl rfl V⟩
  simp only [Act.put, List.setIfInBounds_toArray, List.set_cons_zero, List.set_cons_succ]
  refine wpAnyH_take (i := 7) (oi := ?oi6) (v := .slice ad (m + 4) cap) ?hi6 (by kernel_rfl) (by kernel_rfl) (by kernel_rfl) ?hQ6 ?hy6 (by assumption) ?rest6
  case hi6 => (simp only [List.getElem?_toArray, List.getElem?_cons_zero, List.getElem?_cons_succ]; rfl)
  case hQ6 => exact fun _ _ _ h => h
  case hy6 => exact Or.inl ⟨by rfl, by (intro w hSw; (try dsimp only at hSw); go_simp )⟩
  simp only [Act.put, List.setIfInBounds_toArray, List.set_cons_zero, List.set_cons_succ]
  refine wpAnyH_take (i := 8) (oi := ?oi7) (v := .string (strB l)) ?hi7 (by kernel_rfl) (by kernel_rfl) (by kernel_rfl) ?hQ7 ?hy7 (by assumption) ?rest7
  case hi7 => (simp only [List.getElem?_toArray, List.getElem?_cons_zero, List.getElem?_cons_succ]; rfl)
  case hQ7 => exact fun _ _ _ h => h
  case hy7 => exact Or.inl ⟨by rfl, fun V hV => ex_str (HR.out.bel (Below.mono hV hB)) 5 Tryd.underlying23 Tryd.underlying5 und_str rfl⟩
  simp only [Act.put, List.setIfInBounds_toArray, List.set_cons_zero, List.set_cons_succ]
  refine wpAnyH_ready (rs := [5]) (by kernel_rfl) (by simp) ?_
  refine AllReadyH.cons (o := ?oi8) ?hi8 (fun K hK => ?_) AllReadyH.nil
  case hi8 => (simp only [List.getElem?_toArray, List.getElem?_cons_zero, List.getElem?_cons_succ]; rfl)
  rw [if_pos (by rfl)]
  go_simp
  refine (HO.out _ (.slice ad m cap) (HTO.out.bel (Below.mono hHeld hB)) (Nat.le_trans hB hHeld.size)).mono ?_
  rintro e V2 ⟨v2, rfl, hown, hbc⟩
  replace hbc := below_bl rfl hHeld hbc
  go_simp
  refine hK.out _ _ ?_ (fun hHeld => ?_)
  · exact hbc
  clear hK K
  replace hb := hbc
  have HRL := hide hown.rd
  refine wpAnyH_more (S' := fun U => Below V2.heap.size V2 U) (fun U h => hbc.trans (h.mono hbc.size)) _ _ _ _ ?_
  have hHeld := Below.refl V2.heap.size V2
  refine wpAnyH_take (i := 6) (oi := ?oi9) (v := .string (strB l2)) ?hi9 (by kernel_rfl) (by kernel_rfl) (by kernel_rfl) ?hQ9 ?hy9 (by assumption) ?rest9
  case hi9 => (simp only [List.getElem?_toArray, List.getElem?_cons_zero, List.getElem?_cons_succ]; rfl)
  case hQ9 => exact fun _ _ _ h => h
  case hy9 => exact Or.inl ⟨by rfl, fun V hV => ex_str (HRL.out.bel hV) 5 Tryd.underlying23 Tryd.underlying5 und_str rfl⟩
  simp only [Act.put, List.setIfInBounds_toArray, List.set_cons_zero, List.set_cons_succ]
  refine wpAnyH_take (i := 9) (oi := ?oi10) (v := .bool (!decide (l2 = l))) ?hi10 (by kernel_rfl) (by kernel_rfl) (by kernel_rfl) ?hQ10 ?hy10 (by assumption) ?rest10
  case hi10 => (simp only [List.getElem?_toArray, List.getElem?_cons_zero, List.getElem?_cons_succ]; rfl)
  case hQ10 => exact fun _ _ _ h => h
  case hy10 => exact Or.inl ⟨by rfl, fun V hV => (ex_sneq (strB l2) (strB l) rfl rfl V).trans (by rw [strB_inj HRL.out.lt HLT.out])⟩
  simp only [Act.put, List.setIfInBounds_toArray, List.set_cons_zero, List.set_cons_succ]
  refine wpAnyH_done (by kernel_rfl) ?_ _
  by_cases hok : l2 = l
  · have HYES := hide (decide_eq_true hok)
    rw [decide_eq_true hok]
    have HT2 := hide (HTO.out.bel (Below.mono hb hB))
    clear hok hHeld
    go_wp2
    go_ret2
    exact .inl ⟨HYES.out, _, rfl, HT2.out, hb⟩
  · have HNO := hide (decide_eq_false hok)
    rw [decide_eq_false hok]
    clear hok hHeld
    go_wp2
    go_ret2
    exact .inr ⟨HNO.out, rfl, hb⟩
theorem rcut_any {B : Nat} {v : Value} {l : List Nat} (w : World) (h : Rd B w v l) (hB : B ≤ w.heap.size) (hn : l.length ≤ 100000) :
    Calls Tryd.prog 14 #[v] w fun e w' => (l.length < 4 ∧ e = .returned (.tuple #[.slice none 0 0, .int .i64 12]) ∧ w' = w) ∨ (4 ≤ l.length ∧ RCutAns B w l e w') := by
  by_cases h4 : l.length < 4
  · exact (rcut_short w h h4).mono fun e w' he => .inl ⟨h4, he⟩
  · exact (rcut_long w h hB (l.length - 4) (by omega) (by omega)).mono fun e w' he => .inr ⟨by omega, he⟩
end Go.Proofs.YtnokcfaipbolkaaDoor
