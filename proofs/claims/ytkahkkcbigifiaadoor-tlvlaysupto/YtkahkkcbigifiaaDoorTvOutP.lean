/-
  tlv's Out: NewOut, N, Run, Done.
-/
import Derived.Test.YtkahkkcbigifiaaDoorTvInP
import Derived.Test.YtkahkkcbigifiaaDoorTvSctP
namespace Go.Proofs.YtkahkkcbigifiaaDoor
open Go.RowKit
set_option linter.unusedVariables false
set_option linter.unusedSimpArgs false

variable {P : Program} {ops : Array Oper} {rest : List Oper} {dst : Option Tmp} {ty t t2 : TypeId} {pos : String} {after : Array Edge} {a : Act} {w : World} {Q : Exit → Act → World → Prop} {K : Act → World → Prop} {x y z : Operand} {gd : Option (Nat × Bool)}
/-- An Out at p: what was laid lies in a block of its own behind p. -/
def OutP (p : Nat) (w : World) (l : List Nat) : Prop := ∃ u, RowAt w p #[u] 100 ∧ Own (p + 1) 5 w u l
theorem row_of {w W : World} {b : Nat} {cs : Array Value} {t : TypeId} (hr : RowAt w b cs t) (h : W.heap[b]? = w.heap[b]?) : RowAt W b cs t := h.trans hr
theorem OutP.row {p : Nat} {w : World} {l : List Nat} (h : OutP p w l) : p < w.heap.size := by
  obtain ⟨u, hr, _⟩ := h
  exact hr.lt
theorem OutP.bl {p : Nat} {w W : World} {l : List Nat} (h : OutP p w l) (hb : Below w.heap.size w W) : OutP p W l := by
  obtain ⟨u, hr, hd⟩ := h
  exact ⟨u, hr.bl hb, hd.bl hb⟩
theorem OutP.lt {p : Nat} {w : World} {l : List Nat} (h : OutP p w l) : ∀ c ∈ l, c < 256 := by
  obtain ⟨u, hr, hd⟩ := h
  exact hd.lt
theorem ld_o {p : Nat} {u : Value} {t' : TypeId} (hr : RowAt w p #[u] t') (hx : a.eval x = .pointer (some ⟨p, 0, none⟩)) (k : wpList Tryd.prog ops Q rest (a.put dst u) w) : wpList Tryd.prog ops Q (⟨dst, .load 26 x, ty, pos, after, none⟩ :: rest) a w :=
  op_load_cell p 0 hx _ u _ hr rfl _ Tryd.underlying26 rfl k
theorem st_o {p : Nat} {u : Value} {t' : TypeId} (ad : Option Addr) (n cap : Nat) (hr : RowAt w p #[u] t') (hx : a.eval x = .pointer (some ⟨p, 0, none⟩)) (hy : a.eval y = .slice ad n cap) (k : ∀ W, RowAt W p #[.slice ad n cap] t' → Only p w W → wpList Tryd.prog ops Q rest (a.put dst undef) W) : wpList Tryd.prog ops Q (⟨dst, .store 26 x y, ty, pos, after, none⟩ :: rest) a w :=
  op_store_cell p 0 hx (.slice ad n cap) hy _ #[.slice ad n cap] _ hr size_sl (show 0 < 1 by decide) rfl rfl k
set_option maxRecDepth 100000 in
set_option maxHeartbeats 4000000 in
theorem newOut_any (w : World) :
    Calls Tryd.prog 30 #[] w fun e w' => ∃ p, e = .returned (.pointer (some ⟨p, 0, none⟩)) ∧ w.heap.size ≤ p ∧ w'.heap.size = p + 1 ∧ OutP p w' [] ∧ Below w.heap.size w w' := by
  go_enter Tryd.func30, Tryd.ntmps30
  go_wp2_with ((with_reducible refine op_boxT w.heap.size ?_ (#[.slice none 0 0] : Array Value) ?_ ?_); exact rfl; exact rfl; intro W2 hr hb hz)
  go_ret
  exact ⟨_, rfl, Nat.le_refl _, hz.out, ⟨_, hr, Own.nil _ _ _⟩, hb⟩
set_option maxRecDepth 100000 in
set_option maxHeartbeats 4000000 in
theorem outN_any (p : Nat) (l : List Nat) (w : World) (h : OutP p w l) (hn : l.length ≤ 100000000) (V : Nat) (hV : V < 18446744073709551616) (n : Int) :
    Calls Tryd.prog 27 #[.pointer (some ⟨p, 0, none⟩), .int .u64 (V : Nat), .int .i64 n] w fun e w' => e = .returned (.pointer (some ⟨p, 0, none⟩)) ∧ OutP p w' (layN l V n) ∧ Below p w w' := by
  obtain ⟨u, hr, hown⟩ := h
  have hb : Below p w w := Below.refl _ _
  by_cases hbad : n < 1 ∨ 8 < n
  · rw [layN, if_pos hbad]
    by_cases h1 : n < 1
    · clear hbad
      go_enter Tryd.func27, Tryd.ntmps27
      go_wp2
      go_ret
      exact ⟨rfl, ⟨_, hr, hown⟩, hb⟩
    · have h8 : 8 < n := by omega
      clear hbad
      go_enter Tryd.func27, Tryd.ntmps27
      go_wp2
      go_ret
      exact ⟨rfl, ⟨_, hr, hown⟩, hb⟩
  · rw [layN, if_neg hbad]
    obtain ⟨m, rfl⟩ := Int.eq_ofNat_of_zero_le (show 0 ≤ n by omega)
    have hm1 : 1 ≤ m := by omega
    have hm8 : m ≤ 8 := by omega
    rw [Int.toNat_natCast]
    have HL := hide (lay_any w hown hr.lt hn V hV m hm8)
    have HLEN := hide (show (l ++ leN m V).length = l.length + m by rw [List.length_append, leN_len])
    obtain ⟨q, hq⟩ : ∃ q, l ++ leN m V = q := ⟨_, rfl⟩
    rw [hq] at HL HLEN ⊢
    obtain ⟨au, cu, rfl, _, _⟩ := hown.rd.form
    clear hbad hown hq
    go_enter Tryd.func27, Tryd.ntmps27
    go_wp2_with (first | ((with_reducible refine ld_o hr ?_ ?_); exact rfl) | (go_at_call 35; refine (HL.out).mono ?_; rintro e W ⟨vq, rfl, hown2, hb2, _⟩; obtain ⟨aq, cq, rfl, _, _⟩ := hown2.rd.form; replace hr := row_of hr (hb2.block p (Nat.lt_succ_self p)); replace hb := hb2.mono (Nat.le_succ p)) | ((with_reducible refine st_o aq q.length cq hr ?_ ?_ ?_); exact rfl; exact rfl; intro W3 hnew ho; have hown3 := own_only hown2 ho (Nat.lt_succ_self p); replace hb := ho.bel _ _ (Nat.le_refl _) hb; replace hr := hnew; clear hnew ho))
    go_ret
    exact ⟨rfl, ⟨_, hr, hown3⟩, hb⟩
set_option maxRecDepth 100000 in
set_option maxHeartbeats 4000000 in
theorem outR_any (p : Nat) (l x : List Nat) (ux : Value) (w : World) (h : OutP p w l) (hx : Rd p w ux x) (hn : l.length ≤ 100000000) (hxn : x.length ≤ 100000000) :
    Calls Tryd.prog 28 #[.pointer (some ⟨p, 0, none⟩), ux] w fun e w' => e = .returned (.pointer (some ⟨p, 0, none⟩)) ∧ OutP p w' (layR l x) ∧ Below p w w' := by
  obtain ⟨u, hr, hown⟩ := h
  have hb : Below p w w := Below.refl _ _
  have HL := hide (layRun_any w hown hr.lt (hx.mono (Nat.le_succ p)) hn hxn)
  unfold layR
  obtain ⟨q, hq⟩ : ∃ q, l ++ leN 4 x.length ++ x = q := ⟨_, rfl⟩
  rw [hq] at HL ⊢
  obtain ⟨au, cu, rfl, _, _⟩ := hown.rd.form
  obtain ⟨ax, cx, rfl, _, _⟩ := hx.form
  clear hown hq hx
  go_enter Tryd.func28, Tryd.ntmps28
  go_wp2_with (first | ((with_reducible refine ld_o hr ?_ ?_); exact rfl) | (go_at_call 36; (with_reducible refine (HL.out).mono ?_); rintro e W ⟨vq, rfl, hown2, hb2⟩; obtain ⟨aq, cq, rfl, _, _⟩ := hown2.rd.form; replace hr := row_of hr (hb2.block p (Nat.lt_succ_self p)); replace hb := hb2.mono (Nat.le_succ p)) | ((with_reducible refine st_o aq q.length cq hr ?_ ?_ ?_); exact rfl; exact rfl; intro W3 hnew ho; have hown3 := own_only hown2 ho (Nat.lt_succ_self p); replace hb := ho.bel _ _ (Nat.le_refl _) hb; replace hr := hnew; clear hnew ho))
  go_ret
  exact ⟨rfl, ⟨_, hr, hown3⟩, hb⟩
theorem outD_any (p : Nat) (l : List Nat) (w : World) (h : OutP p w l) (hn : l.length ≤ 100000000) :
    Calls Tryd.prog 29 #[.pointer (some ⟨p, 0, none⟩)] w fun e w' => ∃ v', e = .returned v' ∧ Rd w'.heap.size w' v' l ∧ Below w.heap.size w w' := by
  obtain ⟨u, hr, hown⟩ := h
  have HC := hide (clone_any w hown.rd (Nat.le_refl _) (by omega))
  obtain ⟨au, cu, rfl, _, _⟩ := hown.rd.form
  clear hown
  go_enter Tryd.func29, Tryd.ntmps29
  go_wp2_with (first | ((with_reducible refine ld_o hr ?_ ?_); exact rfl) | (go_at_call 41; (with_reducible refine (HC.out).mono ?_); rintro e W8 ⟨v8, rfl, hown8, hb8⟩))
  go_ret
  exact ⟨_, rfl, hown8.rd, hb8⟩
theorem nilON_any (V : Nat) (n : Int) (w : World) : Calls Tryd.prog 27 #[.pointer none, .int .u64 (V : Nat), .int .i64 n] w fun e w' => e = .returned (.pointer none) ∧ w' = w := by
  go_enter Tryd.func27, Tryd.ntmps27
  go_wp2
  go_ret
  exact ⟨rfl, rfl⟩
theorem nilOR_any (u : Value) (w : World) : Calls Tryd.prog 28 #[.pointer none, u] w fun e w' => e = .returned (.pointer none) ∧ w' = w := by
  go_enter Tryd.func28, Tryd.ntmps28
  go_wp2
  go_ret
  exact ⟨rfl, rfl⟩
theorem nilOD_any (w : World) : Calls Tryd.prog 29 #[.pointer none] w fun e w' => e = .returned (.slice none 0 0) ∧ w' = w := by
  go_enter Tryd.func29, Tryd.ntmps29
  go_wp2
  go_ret
  exact ⟨rfl, rfl⟩
end Go.Proofs.YtkahkkcbigifiaaDoor
