/-
  What ring's partsOf answers.
-/
import Derived.Test.YtbggkoahofnnjaaGreatDoorJR23
open Go.Proofs.Tryz
set_option linter.unusedVariables false
set_option linter.unusedSimpArgs false
namespace Go.Proofs.YtbggkoahofnnjaaGreatDoor
open Go.RowKit
set_option maxHeartbeats 4000000
attribute [local go_sem] Rg.at0 Rg.at1 Rg.at2 Rg.at3 Rg.at4 Rg.at5
def sgOf (g : Nat → Nat) : Sg := ⟨g 0, (g 2 : Nat), hasD g 2⟩
def walkV (p : Nat) (f : Nat → Nat) (r : Rg) (hd : Int) : Option (List Sg) :=
  match followV p f r r.sz.toNat hd with
  | none => none
  | some l => if oddL p 0 false l then none else some (l.map sgOf)
theorem Went.two {B T U : Nat} {O O1 : Nat → Prop} {w0 w W : World} (h : Went B O O1 w0 w) (k : Went B (Two T U) (Two T U) w W) (hT : w0.heap.size ≤ T) (hU : w0.heap.size ≤ U) : Went B O O1 w0 W :=
  ⟨h.below.trans k.below, Nat.le_trans h.size k.size, fun x hx hn => (k.other x (Nat.lt_of_lt_of_le hx h.size) (fun e => by rcases e with e | e <;> omega)).trans (h.other x hx hn), h.own⟩
theorem putAll_size : ∀ (vs : List Value) (cs : Array Value) (o : Nat), (putAll cs o vs).size = cs.size
  | [], _, _ => rfl
  | v :: r, cs, o => (putAll_size r _ (o + 1)).trans (by simp)
theorem putAll_get : ∀ (vs : List Value) (cs : Array Value) (o j : Nat), o + vs.length ≤ cs.size → (putAll cs o vs)[j]? = if o ≤ j ∧ j < o + vs.length then vs[j - o]? else cs[j]?
  | [], cs, o, j, _ => by simp [putAll]; omega
  | v :: r, cs, o, j, h => by
    simp only [List.length_cons] at h
    simp only [putAll]
    rw [putAll_get r _ (o + 1) j (by simp; omega)]
    by_cases h1 : o + 1 ≤ j ∧ j < o + 1 + r.length
    · rw [if_pos h1, if_pos (by simp; omega), show j - o = (j - (o + 1)) + 1 by omega, List.getElem?_cons_succ]
    · rw [if_neg h1]
      by_cases h2 : j = o
      · subst h2
        rw [if_pos (by simp), Nat.sub_self, List.getElem?_cons_zero, Array.getElem?_setIfInBounds_self_of_lt (by omega)]
      · rw [if_neg (by simp; omega), Array.getElem?_setIfInBounds_ne (by omega)]
theorem seg_put {cur : Array Value} {l : List Sg} {g : Sg} {n : Nat} (hs : cur.size = n * 3) (hl : l.length < n) (hc : ∀ (j : Nat) (u : Value), (segL l)[j]? = some u → cur[j]? = some u) :
    (putAll cur (l.length * 3) g.cells.toList).size = n * 3 ∧ ∀ (j : Nat) (u : Value), (segL (l ++ [g]))[j]? = some u → (putAll cur (l.length * 3) g.cells.toList)[j]? = some u := by
  refine ⟨(putAll_size _ _ _).trans hs, fun j u hj => ?_⟩
  have h3 : g.cells.toList.length = 3 := rfl
  rw [putAll_get _ _ _ _ (by rw [h3]; omega), h3]
  rw [segL_app, segL_one] at hj
  by_cases h : j < l.length * 3
  · rw [if_neg (by omega)]
    rw [List.getElem?_append_left (by rw [segL_len]; exact h)] at hj
    exact hc j u hj
  · rw [List.getElem?_append_right (by rw [segL_len]; omega), segL_len] at hj
    have hlt : j - l.length * 3 < 3 := by have := (List.getElem?_eq_some_iff.1 hj).1; rwa [h3] at this
    rw [if_pos (by omega)]
    exact hj
theorem own_of_segs {w : World} {B g n : Nat} {cur : Array Value} {l : List Sg} (hr : RowAt w g cur 193) (hB : B ≤ g) (hn : l.length = n) (hs : cur.size = n * 3) (hm : n ≤ maxLen) (hc : ∀ (j : Nat) (u : Value), (segL l)[j]? = some u → cur[j]? = some u) :
    w.ownsRow B 193 3 (.slice (some ⟨g, 0, none⟩) n n) n (segL l) := by
  refine ⟨by rw [segL_len, hn], .inr ⟨g, n, cur, rfl, hB, hr, Nat.le_refl _, hm, hs, ?_⟩⟩
  rw [List.take_of_length_le (by rw [Array.length_toList, hs]; exact Nat.le_refl _)]
  apply List.ext_getElem?
  intro j
  rw [Array.getElem?_toList]
  by_cases h : j < (segL l).length
  · rw [List.getElem?_eq_getElem h]
    exact hc j _ (List.getElem?_eq_getElem h)
  · rw [List.getElem?_eq_none (by omega), Array.getElem?_eq_none (by rw [hs, ← hn, ← segL_len]; omega)]
variable {ops : Array Oper} {rest : List Oper} {dst : Option Tmp} {ty : TypeId} {pos : String} {after : Array Edge} {a : Act} {w : World} {Q : Exit → Act → World → Prop} {K : Act → World → Prop} {x y : Operand}
theorem mk_s (n : Nat) (hn : n ≤ 1000000) (N : Nat) (hN : w.heap.size = N) (hx : a.eval x = .int .i64 (n : Nat))
    (k : ∀ W cur, RowAt W N cur 193 → cur.size = n * 3 → Below N w W → Hid (W.heap.size = N + 1) → wpList prog ops Q rest (a.put dst (.slice (some ⟨N, 0, none⟩) n n)) W) :
    wpList prog ops Q (⟨dst, .makeSlice 102 x x, ty, pos, after, none⟩ :: rest) a w := by
  subst hN
  obtain ⟨i, h1, h2, h3, h4⟩ := info_s
  have hr := run_make (P := prog) w 102 193 i _ underlying102 h1 h2 .i64 .i64 (n : Int) (n : Int) (by omega) (Int.le_refl _) (by rw [h4]; omega) (by omega)
  rw [Int.toNat_natCast, h3] at hr
  refine wpList_plain rfl fun K hK => ?_
  unfold Oper.wp
  have : (execOp a.eval ⟨dst, .makeSlice 102 x x, ty, pos, after, none⟩).run prog w = .ok (.value (.slice (some ⟨w.heap.size, 0, none⟩) n n)) (w.alloc (.cells (madeCells zeroSg.cells (n * 3)) 193)) := by
    unfold execOp
    simp only [hx, Sem.run_bind, hr, Result.andThen_ok, Sem.run_pure]
    rfl
  rw [this, Oper.upon_value]
  exact hK _ _ (k _ _ (RowAt.new w _ _ _ rfl) (size_madeCells _ _) (below_one w _) (hide (by simp)))
theorem s_sm (b o : Nat) (g : Sg) (old : Array Value) (t' : TypeId) (hr : RowAt w b old t') (hs : o + 3 ≤ old.size) (hx : a.eval x = .pointer (some ⟨b, o, none⟩)) (hy : a.eval y = .agg g.cells)
    (k : ∀ W, RowAt W b (putAll old o g.cells.toList) t' → Only b w W → K (a.put dst undef) W) :
    Oper.wp prog ⟨dst, .store 193 x y, ty, pos, after, none⟩ a w K Q :=
  wp_store_mid 193 x y rfl b o g.cells hx hy (hr.thereAt o _ hs) size_sp (sg_one g) (k _ (RowAt.puts g.cells.toList o hr) (only_setCells b o g.cells.toList w))
theorem walk_nf (r : Rg) (hr0 : r.Ok) (hc : chkR r = true) (hd : Int) {w : World} {B b p c : Nat} {f : Nat → Nat} {O : Nat → Prop} (h : RamB w B b p f c O) (hA : AreasAt w) (hG : 2 < B) (hf : followV p f r r.sz.toNat hd = none) : Calls prog 80 #[.agg r.cells, .pointer (some ⟨b, 0, none⟩), .int .i64 hd] w fun e w' => e = .returned (.tuple #[.slice none 0 0, .iface 82 (.int .i64 22)]) ∧ ∃ O', RamB w' B b p f c O' ∧ Went B O O' w w' := by
  have hB0 := h.base
  have hGw : 2 < w.heap.size := Nat.lt_of_lt_of_le hG hB0
  have hA0 := hA
  clear hA
  have HC : Hid (∀ W, Calls prog 105 #[.agg r.cells, .pointer (some ⟨b, 0, none⟩)] W fun e w' => e = .returned .nilIface ∧ Below W.heap.size W w') := hide (fun W => by have := rcheckw_any r hr0 b W; rw [hc] at this; exact this)
  have HF : Hid (∀ W O1, RamB W B b p f c O1 → AreasAt W → Calls prog 108 #[.agg r.cells, .pointer (some ⟨b, 0, none⟩), .int .i64 hd] W fun e w' => e = .returned (.tuple #[.slice none 0 0, .iface 82 (.int .i64 22)]) ∧ ∃ O', RamB w' B b p f c O' ∧ Went B O1 O' W w') := hide (fun W O1 hM hA => (follow_any r hr0 hc hd hM hA hG).mono (by
    rintro e w' ⟨O', a1, a2, ⟨_, a4⟩ | ⟨l, v, a3, _⟩⟩
    · exact ⟨a4, O', a1, a2⟩
    · rw [hf] at a3; cases a3))
  clear hc hr0 hf
  go_enter func80, ntmps80
  go_wp2_with (first | ((with_reducible refine bx_rp w.heap.size r ?_ ?_ ?_); exact rfl; exact rfl; intro W hr hb hz; have hM := h.bl hb; have hW := Went.of (O := O) hb hB0; have hA := hA0.bl hb; have hF := h.far 1; have hS : w.heap.size + 1 ≤ W.heap.size := Nat.le_of_eq hz.out.symm; have hB : B ≤ W.heap.size := Nat.le_trans hB0 hb.size; clear hb hz) | ((with_reducible refine ld_rp w.heap.size _ hr ?_ ?_ ?_); exact rfl; exact rfl) | (go_at_call 105; (with_reducible refine (HC.out _).mono ?_); rintro e W ⟨rfl, hbc⟩; replace hM := hM.bl hbc; replace hW := hW.bl hbc hB; replace hA := hA.bl hbc; replace hB := Nat.le_trans hB hbc.size; replace hS := Nat.le_trans hS hbc.size; replace hr := hr.bl hbc) | (go_at_call 108; (with_reducible refine (HF.out _ _ hM hA).mono ?_); rintro e W2 ⟨rfl, O2, hM2, hW2⟩; replace hr := hW2.row hr (hF.at 0 (by omega)); replace hA := hA.wentR hG hW2; replace hF := hF.went hW2 hS; replace hS := Nat.le_trans hS hW2.size; replace hW := hW.trans hW2; replace hB := Nat.le_trans hB hW2.size; replace hM := hM2; clear hM2 hW2))
  go_ret2
  exact ⟨rfl, _, hM, hW⟩
theorem walk_odd (r : Rg) (hr0 : r.Ok) (hc : chkR r = true) (hd : Int) {w : World} {B b p c : Nat} {f : Nat → Nat} {O : Nat → Prop} (h : RamB w B b p f c O) (hA : AreasAt w) (hG : 2 < B) (l : List (Nat → Nat)) (hf : followV p f r r.sz.toNat hd = some l) (ho : oddL p 0 false l = true) : Calls prog 80 #[.agg r.cells, .pointer (some ⟨b, 0, none⟩), .int .i64 hd] w fun e w' => e = .returned (.tuple #[.slice none 0 0, .iface 82 (.int .i64 22)]) ∧ ∃ O', RamB w' B b p f c O' ∧ Went B O O' w w' := by
  have hB0 := h.base
  have hGw : 2 < w.heap.size := Nat.lt_of_lt_of_le hG hB0
  have hA0 := hA
  clear hA
  have HC : Hid (∀ W, Calls prog 105 #[.agg r.cells, .pointer (some ⟨b, 0, none⟩)] W fun e w' => e = .returned .nilIface ∧ Below W.heap.size W w') := hide (fun W => by have := rcheckw_any r hr0 b W; rw [hc] at this; exact this)
  obtain ⟨kz, hkz, _, hkz1⟩ := chkR_sz hc
  obtain ⟨hlk, hlp⟩ := follow_len _ _ _ hf
  have hll : l.length ≤ 256 := by omega
  have hww := follow_words h.small _ _ _ hf
  have HF : Hid (∀ W O1, RamB W B b p f c O1 → AreasAt W → Calls prog 108 #[.agg r.cells, .pointer (some ⟨b, 0, none⟩), .int .i64 hd] W fun e w' => ∃ O' v, e = .returned (.tuple #[v, .nilIface]) ∧ RamB w' B b p f c O' ∧ Went B O1 O' W w' ∧ w'.ownsRow W.heap.size 226 4 v l.length (dscL l) ∧ ∀ g, v.ownBlock = some g → ¬ O' g) := hide (fun W O1 hM hA => (follow_any r hr0 hc hd hM hA hG).mono (by
    rintro e w' ⟨O', a1, a2, ⟨a3, _⟩ | ⟨l', v, a3, a4, a5, a6⟩⟩
    · rw [hf] at a3; cases a3
    · rw [hf] at a3; cases a3; exact ⟨O', v, a4, a1, a2, a5, a6⟩))
  have HO : Hid (∀ W NX, W.heap.size = NX → Calls prog 110 #[.pointer (some ⟨b, 0, none⟩)] W fun e w' => e = .returned (.func (.func 125) #[] #[.pointer (some ⟨NX + 1, 0, none⟩), .pointer (some ⟨NX + 1 + 1, 0, none⟩), .pointer (some ⟨NX, 0, none⟩)]) ∧
    RowAt w' (NX + 1) #[.int .u64 0] 191 ∧ RowAt w' (NX + 1 + 1) #[.bool false] 4 ∧ RowAt w' NX #[.pointer (some ⟨b, 0, none⟩)] 59 ∧ Below NX W w' ∧ w'.heap.size = NX + 1 + 1 + 1) := hide (fun W NX e => by subst e; exact oio_any b W)
  have HCN : Hid (∀ W O1 cap gb cur NX, RamB W B b p f c O1 → AreasAt W → RowAt W (NX + 1) #[.int .u64 0] 191 → RowAt W (NX + 1 + 1) #[.bool false] 4 → RowAt W NX #[.pointer (some ⟨b, 0, none⟩)] 59 → RowAt W gb cur 226 → cur.toList.take (l.length * 4) = dscL l → gb < NX → B ≤ NX → ¬ O1 (NX + 1) → ¬ O1 (NX + 1 + 1) →
      Calls prog 109 #[.slice (some ⟨gb, 0, none⟩) l.length cap, .func (.func 125) #[] #[.pointer (some ⟨NX + 1, 0, none⟩), .pointer (some ⟨NX + 1 + 1, 0, none⟩), .pointer (some ⟨NX, 0, none⟩)]] W fun e w' => e = .returned (.bool (oddL p 0 false l)) ∧ Went B (Two (NX + 1) (NX + 1 + 1)) (Two (NX + 1) (NX + 1 + 1)) W w') :=
    hide (fun W O1 cap gb cur NX hM hA hT hU hP hL ht hg hBN n1 n2 => con_odd l hll hww hM hA hG hT hU hP (by omega) (by omega) (by omega) (by omega) (by omega) n1 n2 hL ht (by omega) (by omega))
  rw [ho] at HCN
  have HNP := hide hlp
  generalize l.length = n at *
  clear hc hr0 hf ho hww hkz hlp
  go_enter func80, ntmps80
  go_wp2_with (first | ((with_reducible refine bx_rp w.heap.size r ?_ ?_ ?_); exact rfl; exact rfl; intro W hr hb hz; have hM := h.bl hb; have hW := Went.of (O := O) hb hB0; have hA := hA0.bl hb; have hF := h.far 1; have hS : w.heap.size + 1 ≤ W.heap.size := Nat.le_of_eq hz.out.symm; have hB : B ≤ W.heap.size := Nat.le_trans hB0 hb.size; clear hb hz) | ((with_reducible refine ld_rp w.heap.size _ hr ?_ ?_ ?_); exact rfl; exact rfl) | (go_at_call 105; (with_reducible refine (HC.out _).mono ?_); rintro e W ⟨rfl, hbc⟩; replace hM := hM.bl hbc; replace hW := hW.bl hbc hB; replace hA := hA.bl hbc; replace hB := Nat.le_trans hB hbc.size; replace hS := Nat.le_trans hS hbc.size; replace hr := hr.bl hbc) | (go_at_call 108; (with_reducible refine (HF.out _ _ hM hA).mono ?_); rintro e W2 ⟨O2, v2, rfl, hM2, hW2, hL, hLn⟩; have hBL := hS; replace hr := hW2.row hr (hF.at 0 (by omega)); replace hA := hA.wentR hG hW2; replace hF := hF.went hW2 hS; replace hS := Nat.le_trans hS hW2.size; replace hW := hW.trans hW2; replace hB := Nat.le_trans hB hW2.size; replace hM := hM2; clear hM2 hW2; obtain ⟨gb, cap, cur, rfl, hc1, hc2, hgb, hLr, hcs, htk⟩ := own_row hL HNP.out; have hLn := hLn gb rfl; obtain ⟨NX, hNX0⟩ : ∃ n, W2.heap.size = n := ⟨_, rfl⟩; have hNX := hide hNX0; have hN1 : w.heap.size + 1 ≤ NX := hNX0 ▸ hS; have hN2 : B ≤ NX := hNX0 ▸ hB; have hN3 : gb < NX := hNX0 ▸ hLr.lt; have hN4 : w.heap.size + 1 ≤ gb := Nat.le_trans hBL hgb; have hn1 : ¬ O2 (NX + 1) := (fun e => absurd (hM.lt _ e) (by omega)); have hn2 : ¬ O2 (NX + 1 + 1) := (fun e => absurd (hM.lt _ e) (by omega)); have HTK := hide htk; clear hNX0 htk hcs hL hgb hBL) | (go_at_call 110; (with_reducible refine (HO.out _ NX hNX.out).mono ?_); rintro e W4 ⟨rfl, hT, hU, hP, hb', hsz⟩; have hbc := hNX.out.symm ▸ hb'; replace hM := hM.bl hbc; replace hW := hW.bl hbc hB; replace hA := hA.bl hbc; replace hB := Nat.le_trans hB hbc.size; replace hS := Nat.le_trans hS hbc.size; replace hr := hr.bl hbc; replace hLr := hLr.bl hbc; clear hbc hb' hsz) | (go_at_call 109; (with_reducible refine (HCN.out _ _ _ _ _ _ hM hA hT hU hP hLr HTK.out hN3 hN2 hn1 hn2).mono ?_); rintro e W5 ⟨rfl, hW5⟩; have hOT : ∀ x, O2 x → ¬ Two (NX + 1) (NX + 1 + 1) x := (fun x hx e => by rcases e with rfl | rfl; exact hn1 hx; exact hn2 hx); replace hM := hM.beside hW5 hOT; replace hA := hA.wentR hG hW5; replace hr := hW5.row hr (fun e => by rcases e with e | e <;> omega); replace hLr := hW5.row hLr (fun e => by rcases e with e | e <;> omega); replace hW := hW.two hW5 (by omega) (by omega); replace hS := Nat.le_trans hS hW5.size; replace hB := Nat.le_trans hB hW5.size; clear hT hU hP hW5 hOT))
  go_ret2
  exact ⟨rfl, _, hM, hW⟩
theorem walk_ok (r : Rg) (hr0 : r.Ok) (hc : chkR r = true) (hd : Int) {w : World} {B b p c : Nat} {f : Nat → Nat} {O : Nat → Prop} (h : RamB w B b p f c O) (hA : AreasAt w) (hG : 2 < B) (l : List (Nat → Nat)) (hf : followV p f r r.sz.toNat hd = some l) (ho : oddL p 0 false l = false) : Calls prog 80 #[.agg r.cells, .pointer (some ⟨b, 0, none⟩), .int .i64 hd] w fun e w' => ∃ O' v, e = .returned (.tuple #[v, .nilIface]) ∧ RamB w' B b p f c O' ∧ Went B O O' w w' ∧ w'.ownsRow w.heap.size 193 3 v l.length (segL (l.map sgOf)) ∧ ∀ g, v.ownBlock = some g → ¬ O' g := by
  have hB0 := h.base
  have hGw : 2 < w.heap.size := Nat.lt_of_lt_of_le hG hB0
  have hA0 := hA
  clear hA
  have HC : Hid (∀ W, Calls prog 105 #[.agg r.cells, .pointer (some ⟨b, 0, none⟩)] W fun e w' => e = .returned .nilIface ∧ Below W.heap.size W w') := hide (fun W => by have := rcheckw_any r hr0 b W; rw [hc] at this; exact this)
  obtain ⟨kz, hkz, _, hkz1⟩ := chkR_sz hc
  obtain ⟨hlk, hlp⟩ := follow_len _ _ _ hf
  have hll : l.length ≤ 256 := by omega
  have hww := follow_words h.small _ _ _ hf
  have HF : Hid (∀ W O1, RamB W B b p f c O1 → AreasAt W → Calls prog 108 #[.agg r.cells, .pointer (some ⟨b, 0, none⟩), .int .i64 hd] W fun e w' => ∃ O' v, e = .returned (.tuple #[v, .nilIface]) ∧ RamB w' B b p f c O' ∧ Went B O1 O' W w' ∧ w'.ownsRow W.heap.size 226 4 v l.length (dscL l) ∧ ∀ g, v.ownBlock = some g → ¬ O' g) := hide (fun W O1 hM hA => (follow_any r hr0 hc hd hM hA hG).mono (by
    rintro e w' ⟨O', a1, a2, ⟨a3, _⟩ | ⟨l', v, a3, a4, a5, a6⟩⟩
    · rw [hf] at a3; cases a3
    · rw [hf] at a3; cases a3; exact ⟨O', v, a4, a1, a2, a5, a6⟩))
  have HO : Hid (∀ W NX, W.heap.size = NX → Calls prog 110 #[.pointer (some ⟨b, 0, none⟩)] W fun e w' => e = .returned (.func (.func 125) #[] #[.pointer (some ⟨NX + 1, 0, none⟩), .pointer (some ⟨NX + 1 + 1, 0, none⟩), .pointer (some ⟨NX, 0, none⟩)]) ∧
    RowAt w' (NX + 1) #[.int .u64 0] 191 ∧ RowAt w' (NX + 1 + 1) #[.bool false] 4 ∧ RowAt w' NX #[.pointer (some ⟨b, 0, none⟩)] 59 ∧ Below NX W w' ∧ w'.heap.size = NX + 1 + 1 + 1) := hide (fun W NX e => by subst e; exact oio_any b W)
  have HCN : Hid (∀ W O1 cap gb cur NX, RamB W B b p f c O1 → AreasAt W → RowAt W (NX + 1) #[.int .u64 0] 191 → RowAt W (NX + 1 + 1) #[.bool false] 4 → RowAt W NX #[.pointer (some ⟨b, 0, none⟩)] 59 → RowAt W gb cur 226 → cur.toList.take (l.length * 4) = dscL l → gb < NX → B ≤ NX → ¬ O1 (NX + 1) → ¬ O1 (NX + 1 + 1) →
      Calls prog 109 #[.slice (some ⟨gb, 0, none⟩) l.length cap, .func (.func 125) #[] #[.pointer (some ⟨NX + 1, 0, none⟩), .pointer (some ⟨NX + 1 + 1, 0, none⟩), .pointer (some ⟨NX, 0, none⟩)]] W fun e w' => e = .returned (.bool (oddL p 0 false l)) ∧ Went B (Two (NX + 1) (NX + 1 + 1)) (Two (NX + 1) (NX + 1 + 1)) W w') :=
    hide (fun W O1 cap gb cur NX hM hA hT hU hP hL ht hg hBN n1 n2 => con_odd l hll hww hM hA hG hT hU hP (by omega) (by omega) (by omega) (by omega) (by omega) n1 n2 hL ht (by omega) (by omega))
  rw [ho] at HCN
  have HNP := hide hlp
  have HWW := hide hww
  obtain ⟨n, hn⟩ : ∃ n, l.length = n := ⟨_, rfl⟩
  have HN := hide hn
  rw [hn] at HF HCN hll hlp HNP ⊢
  clear hc hr0 hf ho hww hkz hn hlk
  go_enter func80, ntmps80
  go_wp2_with (first | ((with_reducible refine bx_rp w.heap.size r ?_ ?_ ?_); exact rfl; exact rfl; intro W hr hb hz; have hM := h.bl hb; have hW := Went.of (O := O) hb hB0; have hA := hA0.bl hb; have hF := h.far 1; have hS : w.heap.size + 1 ≤ W.heap.size := Nat.le_of_eq hz.out.symm; have hB : B ≤ W.heap.size := Nat.le_trans hB0 hb.size; clear hb hz) | ((with_reducible refine ld_rp w.heap.size _ hr ?_ ?_ ?_); exact rfl; exact rfl) | (go_at_call 105; (with_reducible refine (HC.out _).mono ?_); rintro e W ⟨rfl, hbc⟩; replace hM := hM.bl hbc; replace hW := hW.bl hbc hB; replace hA := hA.bl hbc; replace hB := Nat.le_trans hB hbc.size; replace hS := Nat.le_trans hS hbc.size; replace hr := hr.bl hbc) | (go_at_call 108; (with_reducible refine (HF.out _ _ hM hA).mono ?_); rintro e W2 ⟨O2, v2, rfl, hM2, hW2, hL, hLn⟩; have hBL := hS; replace hr := hW2.row hr (hF.at 0 (by omega)); replace hA := hA.wentR hG hW2; replace hF := hF.went hW2 hS; replace hS := Nat.le_trans hS hW2.size; replace hW := hW.trans hW2; replace hB := Nat.le_trans hB hW2.size; replace hM := hM2; clear hM2 hW2; obtain ⟨gb, cap, cur, rfl, hc1, hc2, hgb, hLr, hcs, htk⟩ := own_row hL HNP.out; have hLn := hLn gb rfl; obtain ⟨NX, hNX0⟩ : ∃ n, W2.heap.size = n := ⟨_, rfl⟩; have hNX := hide hNX0; have hN1 : w.heap.size + 1 ≤ NX := hNX0 ▸ hS; have hN2 : B ≤ NX := hNX0 ▸ hB; have hN3 : gb < NX := hNX0 ▸ hLr.lt; have hN4 : w.heap.size + 1 ≤ gb := Nat.le_trans hBL hgb; have hn1 : ¬ O2 (NX + 1) := (fun e => absurd (hM.lt _ e) (by omega)); have hn2 : ¬ O2 (NX + 1 + 1) := (fun e => absurd (hM.lt _ e) (by omega)); have HTK := hide htk; clear hNX0 htk hcs hL hgb hBL) | (go_at_call 110; (with_reducible refine (HO.out _ NX hNX.out).mono ?_); rintro e W4 ⟨rfl, hT, hU, hP, hb', hsz⟩; have hbc := hNX.out.symm ▸ hb'; replace hM := hM.bl hbc; replace hW := hW.bl hbc hB; replace hA := hA.bl hbc; replace hB := Nat.le_trans hB hbc.size; replace hS := Nat.le_trans hS hbc.size; replace hr := hr.bl hbc; replace hLr := hLr.bl hbc; clear hbc hb' hsz) | (go_at_call 109; (with_reducible refine (HCN.out _ _ _ _ _ _ hM hA hT hU hP hLr HTK.out hN3 hN2 hn1 hn2).mono ?_); rintro e W5 ⟨rfl, hW5⟩; have hOT : ∀ x, O2 x → ¬ Two (NX + 1) (NX + 1 + 1) x := (fun x hx e => by rcases e with rfl | rfl; exact hn1 hx; exact hn2 hx); replace hM := hM.beside hW5 hOT; replace hA := hA.wentR hG hW5; replace hr := hW5.row hr (fun e => by rcases e with e | e <;> omega); replace hLr := hW5.row hLr (fun e => by rcases e with e | e <;> omega); replace hW := hW.two hW5 (by omega) (by omega); have hSx : NX < W5.heap.size := Nat.lt_of_lt_of_le (Nat.lt_of_lt_of_le (Nat.lt_succ_self NX) (Nat.le_of_lt hT.lt)) hW5.size; replace hS := Nat.le_trans hS hW5.size; replace hB := Nat.le_trans hB hW5.size; clear hT hU hP hW5 hOT; obtain ⟨NO, hNO0⟩ : ∃ n, W5.heap.size = n := ⟨_, rfl⟩; have hNO := hide hNO0; have hO1 : NX < NO := hNO0 ▸ hSx; clear hNO0 hSx) | ((with_reducible refine mk_s n (by omega) NO ?_ ?_ ?_); exact hNO.out; exact rfl; intro W oc hoR hos hb' hz; have hbc := hNO.out ▸ hb'; have hoO : ¬ O2 NO := (fun e => absurd (hM.lt _ e) (by have := hNO.out; omega)); replace hM := hM.bl hbc; replace hW := hW.bl hbc hB; replace hA := hA.bl hbc; replace hB := Nat.le_trans hB hbc.size; replace hS := Nat.le_trans hS hbc.size; replace hr := hr.bl hbc; replace hLr := hLr.bl hbc; clear hbc hb' hz))
  go_loopw [40] (fun iv wr => ∃ (k : Nat) (oc : Array Value), k ≤ n ∧ iv = .int .i64 (k : Nat) ∧ RowAt wr NO oc 193 ∧ oc.size = n * 3 ∧ (∀ (j : Nat) (u : Value), (segL ((l.take k).map sgOf))[j]? = some u → oc[j]? = some u) ∧ RamB wr B b p f c O2 ∧ Went B O O2 w wr ∧ RowAt wr gb cur 226 ∧ NO < wr.heap.size ∧ B ≤ wr.heap.size) (fun iv _ => n - (intOf iv).toNat)
  case atStart => exact ⟨0, oc, Nat.zero_le _, rfl, hoR, hos, fun j u hj => by simp [segL] at hj, hM, hW, hLr, hoR.lt, hB⟩
  case round =>
    clear hoR hos hM hW hLr hB hA hr hF hS hNX hNO
    obtain ⟨k, oc, hk, rfl, hoR, hos, hoc, hM, hW, hLr, hS, hB⟩ := hrel
    have HOC := hide hoc
    clear hoc
    by_cases hlt : k < n
    · obtain ⟨d, hd'⟩ : ∃ d, l[k]? = some d := ⟨_, List.getElem?_eq_getElem (by rw [HN.out]; exact hlt)⟩
      have hmid := mid_d HTK.out hd'
      have htl : (l.take k).length = k := by rw [List.length_take, HN.out]; omega
      have htk1 : (l.take (k + 1)).map sgOf = (l.take k).map sgOf ++ [sgOf d] := by rw [List.take_add_one, hd']; simp
      have hml : ((l.take k).map sgOf).length = k := by rw [List.length_map, htl]
      have HP3 := hide (seg_put (g := sgOf d) hos (by rw [hml]; exact hlt) HOC.out)
      rw [hml, ← htk1] at HP3
      have hg := HWW.out d (List.mem_of_getElem? hd')
      have hg2 := hg 2
      have HHS : Hid (∀ W, Calls prog 111 #[.agg (dscV d), .int .u32 2] W fun e w' => e = .returned (.bool (hasD d 2)) ∧ Below W.heap.size W w') := hide (fun W => hasd_any d (hg 3) 2 (by decide) W)
      obtain ⟨ND, hND0⟩ : ∃ x, wr.heap.size = x := ⟨_, rfl⟩
      have hND := hide hND0
      have hd1 : NO < ND := hND0 ▸ hS
      have hd2 : B ≤ ND := hND0 ▸ hB
      have hdO : ¬ O2 ND := fun e => absurd (hM.lt _ e) (by omega)
      have hlt' : (k : Int) < (n : Int) := by omega
      have ecv : Hid (IntKind.i64.wrap ((d 2 : Nat) : Int) = ((d 2 : Nat) : Int)) := hide (i64_in _ (by omega) (by omega))
      clear hND0 hd' htl htk1 hml hg
      go_wp2_with (first | ((with_reducible refine ld_dm gb (k * 4) d cur hLr hmid ?_ ?_); exact rfl) | ((with_reducible refine al_dp ND ?_ ?_); exact hND.out; intro W hdr hb' hz; have hbc := hND.out ▸ hb'; replace hM := hM.bl hbc; replace hW := hW.bl hbc hB; replace hLr := hLr.bl hbc; replace hoR := hoR.bl hbc; replace hB := Nat.le_trans hB hbc.size; replace hS := Nat.le_trans hS hbc.size; clear hb' hbc hz) | ((with_reducible refine st_dp ND _ d hdr ?_ ?_ ?_); exact rfl; exact rfl; intro W hnew ho; replace hM := hM.only ho hdO; replace hW := hW.only ho (by omega) (by omega); replace hLr := hLr.only ho (by omega); replace hoR := hoR.only ho (by omega); replace hS := (show NO < W.heap.size by rw [ho.size]; exact hS); replace hB := (show B ≤ W.heap.size by rw [ho.size]; exact hB); replace hdr := hnew; clear hnew ho))
      refine wp_region_held_drew (S := (fun V => RowAt V ND (dscV d) 226)) (by kernel_rfl) ?_ (fun hHeld => ?_)
      · exact hdr.dr
      replace hM := hM.dr
      replace hW := hW.dr
      replace hLr := hLr.dr
      replace hoR := hoR.dr
      replace hS : NO < (World.drew _).heap.size := hS
      replace hB : B ≤ (World.drew _).heap.size := hB
      generalize World.drew _ = V at hHeld hM hW hLr hoR hS hB ⊢
      clear hdr
      refine tkO 0 (.slice (some ⟨NO, 0, none⟩) n n) (by simp only [gT, gZ]; rfl) (puO (by (intro w hSw; (try dsimp only at hSw); go_simp))) ?_
      simp only [Act.put, pA, pZ, pS]
      refine tkO 1 (.int .i64 (k : Nat)) (by simp only [gT, gZ, gS]; rfl) (puO (by (intro w hSw; (try dsimp only at hSw); go_simp))) ?_
      simp only [Act.put, pA, pZ, pS]
      refine tkO 2 (.pointer (some ⟨ND, 0, none⟩)) (by simp only [gT, gZ, gS]; rfl) (puO (by (intro w hSw; (try dsimp only at hSw); go_simp))) ?_
      simp only [Act.put, pA, pZ, pS]
      refine tkO 3 (.int .u32 (d 0 : Nat)) (by simp only [gT, gZ, gS]; rfl) (y_dc ND 0 d (by decide) _ (fun V hV => hV) rfl) ?_
      simp only [Act.put, pA, pZ, pS]
      refine tkO 4 (.pointer (some ⟨ND, 2, none⟩)) (by simp only [gT, gZ, gS]; rfl) (puO (by (intro w hSw; (try dsimp only at hSw); go_simp))) ?_
      simp only [Act.put, pA, pZ, pS]
      refine tkO 5 (.int .u32 (d 2 : Nat)) (by simp only [gT, gZ, gS]; rfl) (y_dc ND 2 d (by decide) _ (fun V hV => hV) rfl) ?_
      simp only [Act.put, pA, pZ, pS]
      refine tkO 6 (.int .i64 (d 2 : Nat)) (by simp only [gT, gZ, gS]; rfl) (puO (by (intro w hSw; (try dsimp only at hSw); go_simp ; exact ecv.out))) ?_
      simp only [Act.put, pA, pZ, pS]
      refine tkO 7 (.agg (dscV d)) (by simp only [gT, gZ, gS]; rfl) (y_dp ND d (fun V hV => hV) rfl rfl) ?_
      simp only [Act.put, pA, pZ, pS]
      refine skO 8 (by simp only [gT, gZ, gS]; rfl) (fun K hK => ?_)
      rw [if_pos (by rfl)]
      go_simp
      (with_reducible refine (HHS.out _).mono ?_)
      rintro e V2 ⟨rfl, hbc⟩
      have hH2 := hide (hHeld.bl hbc)
      replace hM := hM.bl hbc
      replace hW := hW.bl hbc hB
      replace hLr := hLr.bl hbc
      replace hoR := hoR.bl hbc
      replace hB := Nat.le_trans hB hbc.size
      replace hS := Nat.lt_of_lt_of_le hS hbc.size
      clear hHeld hbc
      go_simp
      refine hK.out _ _ ?_ (fun hHeld => ?_)
      · exact hH2.out
      clear hK K
      clear hH2
      refine tkO 9 (.agg (sgOf d).cells) (by simp only [gT, gZ, gS]; rfl) (puO (by (intro w hSw; (try dsimp only at hSw); go_simp ; rfl))) ?_
      simp only [Act.put, pA, pZ, pS]
      refine tkO 10 (.pointer (some ⟨NO, k * 3, none⟩)) (by simp only [gT, gZ, gS]; rfl) (puO (by (intro w hSw; (try dsimp only at hSw); go_simp))) ?_
      simp only [Act.put, pA, pZ, pS]
      refine skO 11 (by simp only [gT, gZ, gS]; rfl) (fun K hK => ?_)
      rw [if_pos (by rfl)]
      (with_reducible refine s_sm NO (k * 3) (sgOf d) oc _ hoR (by omega) ?_ ?_ ?_)
      · exact rfl
      · exact rfl
      intro V hnew ho
      have hH2 := hide (hHeld.only ho (by omega))
      replace hM := hM.only ho hoO
      replace hW := hW.only ho (by omega) (by omega)
      replace hLr := hLr.only ho (by omega)
      replace hS := (show NO < V.heap.size by rw [ho.size]; exact hS)
      replace hB := (show B ≤ V.heap.size by rw [ho.size]; exact hB)
      replace hoR := hnew
      clear hHeld hnew ho
      refine hK.out _ _ ?_ (fun hHeld => ?_)
      · exact hH2.out
      clear hK K
      clear hH2
      refine wpAnyH_done (by kernel_rfl) ?_ _
      clear hHeld
      go_wp2_with (fail)
      go_roundw
      case rel => exact ⟨k + 1, _, hlt, by go_num, hoR, HP3.out.1, HP3.out.2, hM, hW, hLr, hS, hB⟩
      case measure => simp [intOf]; omega
    · obtain rfl : k = n := by omega
      go_wp2
      go_ret2
      have ht : l.take k = l := by rw [← HN.out, List.take_length]
      rw [ht] at HOC
      exact ⟨O2, _, rfl, hM, hW, own_of_segs hoR (by omega) (by rw [List.length_map]; exact HN.out) hos (by unfold maxLen; omega) HOC.out, fun g e => by cases e; exact hoO⟩
end Go.Proofs.YtbggkoahofnnjaaGreatDoor
namespace Go.Proofs.YtbggkoahofnnjaaGreatDoor
open Go.RowKit
set_option maxHeartbeats 2000000
def inS (p : Nat) (s : Sg) : Bool := plB p s.at' s.n.toNat
theorem pout_any (s : Sg) (hs : s.Ok) (h0 : 0 ≤ s.n) {w : World} {B b p c Mb : Nat} {tM : TypeId} {f : Nat → Nat} {O : Nat → Prop} (hM : RamB w B b p f c O) (hA : AreasAt w) (hP : RowAt w Mb #[.pointer (some ⟨b, 0, none⟩)] tM) :
    Calls prog 128 #[.agg s.cells, .pointer (some ⟨Mb, 0, none⟩)] w fun e w' => e = .returned (.bool (!inS p s)) ∧ Below w.heap.size w w' := by
  obtain ⟨n, hn⟩ := Int.eq_ofNat_of_zero_le h0
  have hnl := hs.n1
  have HIN : Hid (∀ W, RamB W B b p f c O → AreasAt W → Calls prog 115 #[.pointer (some ⟨b, 0, none⟩), .int .u32 (s.at' : Nat), .int .u64 (n : Nat)] W fun e w' => e = .returned (.bool (inS p s)) ∧ Below W.heap.size W w') := hide (fun W hM hA => by have := isin_b hM hA s.at' n hs.at' (by omega); unfold inS; rw [hn, Int.toNat_natCast]; exact this)
  have ecv : Hid (IntKind.u64.wrap s.n = (n : Int)) := hide (by rw [hn, IntKind.wrap_u64]; omega)
  have ecv2 : IntKind.u64.wrap s.n = (n : Int) := ecv.out
  generalize inS p s = bo at HIN ⊢
  clear hs h0 hn
  go_enter func128, ntmps128
  go_wp2_with (first | ((with_reducible refine bx_sp w.heap.size s ?_ ?_ ?_); exact rfl; exact rfl; intro W hr hb hz; replace hP := hP.bl hb; replace hM := hM.bl hb; replace hA := hA.bl hb) | ((with_reducible refine ld_pm1 Mb _ _ hP ?_ ?_ ?_); exact rfl; exact rfl) | ((with_reducible refine ld_sat w.heap.size _ _ hr ?_ ?_ ?_); exact rfl; exact rfl) | ((with_reducible refine ld_sn w.heap.size _ _ hr ?_ ?_ ?_); exact rfl; exact rfl) | (go_at_call 115; (with_reducible refine (HIN.out _ hM hA).mono ?_); rintro e W ⟨rfl, hbc⟩; replace hb := below_bl rfl hb hbc))
  go_ret
  exact ⟨rfl, hb⟩
theorem idx_seg (l : List Sg) (hl : l.length ≤ 1000000000) (hw : ∀ s ∈ l, s.Ok ∧ 0 ≤ s.n) {w : World} {B b p c Mb Bl : Nat} {v : Value} {tM : TypeId} {f : Nat → Nat} {O : Nat → Prop} (hM : RamB w B b p f c O) (hA : AreasAt w) (hP : RowAt w Mb #[.pointer (some ⟨b, 0, none⟩)] tM) (hL : w.ownsRow Bl 193 3 v l.length (segL l)) :
    Calls prog 136 #[v, .func (.func 128) #[] #[.pointer (some ⟨Mb, 0, none⟩)]] w fun e w' => ∃ z : Int, e = .returned (.int .i64 z) ∧ (0 ≤ z ↔ l.all (inS p) = false) ∧ Below w.heap.size w w' := by
  have HM := hide hM
  have HA := hide hA
  have HP := hide hP
  have HL := hide hL
  obtain ⟨n, hn⟩ : ∃ n, l.length = n := ⟨_, rfl⟩
  have HN := hide hn
  rw [hn] at hl
  obtain ⟨av, cap, rfl, hc1, hc2⟩ := own_form hL
  rw [hn] at hc1 ⊢
  clear hM hA hP hL hn
  go_enter func136, ntmps136
  go_wp2
  go_loopw [8] (fun iv wr => ∃ (k : Nat), k ≤ n ∧ iv = .int .i64 (k : Nat) ∧ (l.take k).all (inS p) = true ∧ Below w.heap.size w wr) (fun iv _ => n - (intOf iv).toNat)
  case atStart => exact ⟨0, Nat.zero_le _, rfl, rfl, Below.refl _ _⟩
  case round =>
    obtain ⟨k, hk, rfl, hod, hb⟩ := hrel
    have HOD := hide hod
    clear hod
    by_cases hlt : k < n
    · obtain ⟨gb, cap', cur, hve, _, _, _, hLr0, _, htk⟩ := own_row (own_bel HL.out hb) (show 0 < l.length by rw [HN.out]; omega)
      obtain ⟨rfl, rfl⟩ : av = some ⟨gb, 0, none⟩ ∧ cap = cap' := by injection hve with e1 e2 e3; exact ⟨e1, e3⟩
      have hLr := hLr0
      obtain ⟨s, hs⟩ : ∃ s, l[k]? = some s := ⟨_, List.getElem?_eq_getElem (by rw [HN.out]; exact hlt)⟩
      have hmid := mid_s htk hs
      obtain ⟨hok, hsn⟩ := hw s (List.mem_of_getElem? hs)
      have hta : (l.take (k + 1)).all (inS p) = inS p s := by rw [List.take_add_one, hs, List.all_append, HOD.out]; simp
      have HTA := hide hta
      have hall : Hid (inS p s = false → l.all (inS p) = false) := hide (fun e => by
        rw [Bool.eq_false_iff]
        intro h
        have := List.all_eq_true.1 h s (List.mem_of_getElem? hs)
        rw [e] at this; cases this)
      have HC : Hid (Calls prog 128 #[.agg s.cells, .pointer (some ⟨Mb, 0, none⟩)] wr fun e w' => e = .returned (.bool (!inS p s)) ∧ Below wr.heap.size wr w') := hide (pout_any s hok hsn (HM.out.bl hb) (HA.out.bl hb) (HP.out.bl hb))
      obtain ⟨bo, hbo⟩ : ∃ x, inS p s = x := ⟨_, rfl⟩
      rw [hbo] at HC HTA hall
      clear hs hta hbo hok htk hve
      cases bo with
      | false =>
        go_wp2_with (first | ((with_reducible refine ld_sm gb (k * 3) s cur _ hLr hmid ?_ ?_); exact rfl) | (go_at_call 128; (with_reducible refine HC.out.mono ?_); rintro e W2 ⟨rfl, hb2⟩))
        go_ret
        exact ⟨_, rfl, ⟨fun _ => hall.out (by first | rfl | trivial), fun _ => by omega⟩, hb.trans (hb2.mono hb.size)⟩
      | true =>
        go_wp2_with (first | ((with_reducible refine ld_sm gb (k * 3) s cur _ hLr hmid ?_ ?_); exact rfl) | (go_at_call 128; (with_reducible refine HC.out.mono ?_); rintro e W2 ⟨rfl, hb2⟩))
        go_roundw
        case rel => exact ⟨k + 1, hlt, by go_num, HTA.out, hb.trans (hb2.mono hb.size)⟩
        case measure => simp [intOf]; omega
    · obtain rfl : k = n := by omega
      go_wp2
      go_ret
      refine ⟨_, rfl, ⟨fun e => absurd e (by decide), fun e => ?_⟩, hb⟩
      have := HOD.out
      rw [← HN.out, List.take_length, e] at this
      cases this
theorem con_seg (l : List Sg) (hl : l.length ≤ 1000000000) (hw : ∀ s ∈ l, s.Ok ∧ 0 ≤ s.n) {w : World} {B b p c Mb Bl : Nat} {v : Value} {tM : TypeId} {f : Nat → Nat} {O : Nat → Prop} (hM : RamB w B b p f c O) (hA : AreasAt w) (hP : RowAt w Mb #[.pointer (some ⟨b, 0, none⟩)] tM) (hL : w.ownsRow Bl 193 3 v l.length (segL l)) :
    Calls prog 127 #[v, .func (.func 128) #[] #[.pointer (some ⟨Mb, 0, none⟩)]] w fun e w' => e = .returned (.bool (!l.all (inS p))) ∧ Below w.heap.size w w' := by
  have HI := hide (idx_seg l hl hw hM hA hP hL)
  obtain ⟨ob, hob⟩ : ∃ x, l.all (inS p) = x := ⟨_, rfl⟩
  rw [hob] at HI ⊢
  clear hM hA hP hL hl hw hob
  go_enter func127, ntmps127
  go_wp2_with (first | (go_at_call 136; (with_reducible refine HI.out.mono ?_); rintro e W2 ⟨z, rfl, hz, hW2⟩; have HZ := hide hz; clear hz))
  go_ret
  refine ⟨?_, hW2⟩
  have hq : decide (0 ≤ z) = !ob := by
    have := HZ.out
    cases ob <;> simp_all
  exact congrArg (fun x => Ending.returned (.bool x)) hq
end Go.Proofs.YtbggkoahofnnjaaGreatDoor
namespace Go.Proofs.YtbggkoahofnnjaaGreatDoor
open Go.RowKit
set_option maxHeartbeats 4000000
theorem op_box1 {P : Program} {ops : Array Oper} {rest : List Oper} {dst : Option Tmp} {ty t : TypeId} {pos : String} {after : Array Edge} {a : Act} {w : World} {Q : Exit → Act → World → Prop} {x : Operand} (N : Nat) (hN : w.heap.size = N) (v : Value) (hx : a.eval x = v) (hv : v.cells = #[v])
    (k : ∀ W, RowAt W N #[v] t → Below N w W → Hid (W.heap.size = N + 1) → wpList P ops Q rest (a.put dst (.pointer (some ⟨N, 0, none⟩))) W) :
    wpList P ops Q (⟨dst, .box t x, ty, pos, after, none⟩ :: rest) a w := by
  subst hN
  exact Great.wpList_boxTo rfl t x rfl dst rfl _ rfl #[v] (by rw [hx, hv]) (k _ (RowAt.new w _ #[v] t rfl) (below_one w _) (hide (by simp)))
def partsV (wr : Bool) : Int → List Sg → List Sg
  | _, [] => []
  | n, s :: t => if s.wr = wr ∧ 0 < s.n ∧ 0 < n then { s with n := if s.n ≤ n then s.n else n } :: partsV wr (n - if s.n ≤ n then s.n else n) t else partsV wr n t
def leftV (wr : Bool) : Int → List Sg → Int
  | n, [] => n
  | n, s :: t => if s.wr = wr ∧ 0 < s.n ∧ 0 < n then leftV wr (n - if s.n ≤ n then s.n else n) t else leftV wr n t
theorem partsV_app (wr : Bool) : ∀ (l m : List Sg) (n : Int), partsV wr n (l ++ m) = partsV wr n l ++ partsV wr (leftV wr n l) m
  | [], m, n => rfl
  | s :: t, m, n => by
    simp only [List.cons_append, partsV, leftV]
    split
    · rw [partsV_app wr t m]; rfl
    · exact partsV_app wr t m n
theorem leftV_app (wr : Bool) : ∀ (l m : List Sg) (n : Int), leftV wr n (l ++ m) = leftV wr (leftV wr n l) m
  | [], m, n => rfl
  | s :: t, m, n => by
    simp only [List.cons_append, leftV]
    split
    · exact leftV_app wr t m _
    · exact leftV_app wr t m n
theorem partsV_ok (wr : Bool) : ∀ (l : List Sg) (n : Int), (∀ s ∈ l, s.Ok) → ∀ s ∈ partsV wr n l, s.Ok ∧ 0 ≤ s.n ∧ 0 < s.n ∧ s.wr = wr
  | [], _, _ => fun s h => by cases h
  | x :: t, n, h => by
    simp only [partsV]
    have ht := fun n => partsV_ok wr t n (fun s hs => h s (List.mem_cons_of_mem _ hs))
    split
    · rename_i hx
      intro s hs
      rcases List.mem_cons.1 hs with rfl | hs
      · have hk := h x (List.mem_cons_self ..)
        have h1 := hk.n0
        have h2 := hk.n1
        refine ⟨⟨hk.at', ?_, ?_⟩, ?_, ?_, hx.1⟩
        all_goals (show _ ; simp only; split <;> omega)
      · exact ht _ s hs
    · exact ht n
theorem partsV_len (wr : Bool) : ∀ (l : List Sg) (n : Int), (partsV wr n l).length ≤ l.length
  | [], _ => Nat.le_refl _
  | s :: t, n => by
    simp only [partsV]
    split
    · have := partsV_len wr t (n - if s.n ≤ n then s.n else n); simp; omega
    · have := partsV_len wr t n; simp; omega
theorem leftV_in (wr : Bool) : ∀ (l : List Sg) (n : Int), (∀ s ∈ l, s.Ok) → -9223372036854775808 ≤ n → n ≤ 9223372036854775807 → -9223372036854775808 ≤ leftV wr n l ∧ leftV wr n l ≤ 9223372036854775807
  | [], n, _, h1, h2 => ⟨h1, h2⟩
  | s :: t, n, h, h1, h2 => by
    simp only [leftV]
    have ht := fun n => leftV_in wr t n (fun s hs => h s (List.mem_cons_of_mem _ hs))
    split
    · apply ht
      · split <;> omega
      · split <;> omega
    · exact ht n h1 h2
theorem parts_any (l : List Sg) (hl : l.length ≤ 100000000) (hw : ∀ s ∈ l, s.Ok) (wb : Bool) (n0 : Int) (hn0 : -9223372036854775808 ≤ n0) (hn1 : n0 ≤ 9223372036854775807) {w : World} {B b p c Bl : Nat} {v : Value} {f : Nat → Nat} {O : Nat → Prop} (hM : RamB w B b p f c O) (hA : AreasAt w) (hL : w.ownsRow Bl 193 3 v l.length (segL l)) :
    Calls prog 112 #[.pointer (some ⟨b, 0, none⟩), v, .bool wb, .int .i64 n0] w fun e w' => Below w.heap.size w w' ∧ (((partsV wb n0 l).all (inS p) = true ∧ ∃ v', e = .returned (.tuple #[v', .nilIface]) ∧ w'.ownsRow w.heap.size 193 3 v' (partsV wb n0 l).length (segL (partsV wb n0 l))) ∨ ((partsV wb n0 l).all (inS p) = false ∧ e = .returned (.tuple #[.slice none 0 0, .iface 82 (.int .i64 22)]))) := by
  have HM := hide hM
  have HA := hide hA
  have HL := hide hL
  obtain ⟨n, hn⟩ : ∃ n, l.length = n := ⟨_, rfl⟩
  have HN := hide hn
  rw [hn] at hl
  obtain ⟨av, cap, rfl, hc1, hc2⟩ := own_form hL
  rw [hn] at hc1 ⊢
  have hGw := hA.lt
  clear hM hA hL hn
  go_enter func112, ntmps112
  go_wp2_with (first | ((with_reducible refine op_box1 w.heap.size ?_ (.pointer (some ⟨b, 0, none⟩)) ?_ rfl ?_); exact rfl; exact rfl; intro W hP hb hz))
  go_loopw [3, 10, 15] (fun nv ov iv wr => ∃ (k : Nat), k ≤ n ∧ iv = .int .i64 (k : Nat) ∧ nv = .int .i64 (leftV wb n0 (l.take k)) ∧ wr.ownsRow (w.heap.size + 1) 193 3 ov (partsV wb n0 (l.take k)).length (segL (partsV wb n0 (l.take k))) ∧ RowAt wr w.heap.size #[.pointer (some ⟨b, 0, none⟩)] 59 ∧ Below w.heap.size w wr ∧ w.heap.size + 1 ≤ wr.heap.size) (fun nv ov iv _ => n - (intOf iv).toNat)
  case atStart => exact ⟨0, Nat.zero_le _, rfl, rfl, World.ownsRow_nil _ _ _ _, hP, hb, Nat.le_of_eq hz.out.symm⟩
  case round =>
    clear hP hb hz
    obtain ⟨k, hk, rfl, rfl, hO, hP, hb, hS⟩ := hrel
    have hle := leftV_in wb (l.take k) n0 (fun s hs => hw s (List.mem_of_mem_take hs)) hn0 hn1
    obtain ⟨pl, hpl⟩ : ∃ x, partsV wb n0 (l.take k) = x := ⟨_, rfl⟩
    obtain ⟨nl, hnl⟩ : ∃ x, leftV wb n0 (l.take k) = x := ⟨_, rfl⟩
    obtain ⟨pn, hpn⟩ : ∃ x, pl.length = x := ⟨_, rfl⟩
    have hpk : pn ≤ 100000000 := by
      have := partsV_len wb (l.take k) n0
      rw [hpl, hpn, List.length_take] at this
      omega
    rw [hpl, hpn] at hO
    rw [hnl] at hle ⊢
    have HPL := hide hpl
    have HNL := hide hnl
    have HPN := hide hpn
    obtain ⟨ov, oc, rfl, ho1, ho2⟩ := own_form hO
    clear hpl hnl hpn
    by_cases hlt : k < n
    · obtain ⟨gb, cap', cur, hve, _, _, _, hLr0, _, htk⟩ := own_row (own_bel HL.out hb) (show 0 < l.length by rw [HN.out]; omega)
      obtain ⟨rfl, rfl⟩ : av = some ⟨gb, 0, none⟩ ∧ cap = cap' := by injection hve with e1 e2 e3; exact ⟨e1, e3⟩
      have hgl : gb < w.heap.size := (HL.out.lt gb rfl).2
      have hLr := hLr0
      obtain ⟨s, hs⟩ : ∃ s, l[k]? = some s := ⟨_, List.getElem?_eq_getElem (by rw [HN.out]; exact hlt)⟩
      have hmid := mid_s htk hs
      have hok := hw s (List.mem_of_getElem? hs)
      have ok0 := hok.n0
      have ok1 := hok.n1
      have ht1 : l.take (k + 1) = l.take k ++ [s] := by rw [List.take_add_one, hs]; rfl
      have hpa : partsV wb n0 (l.take (k + 1)) = pl ++ partsV wb nl [s] := by rw [ht1, partsV_app, HPL.out, HNL.out]
      have hna : leftV wb n0 (l.take (k + 1)) = leftV wb nl [s] := by rw [ht1, leftV_app, HNL.out]
      have HPA := hide hpa
      have HNA := hide hna
      have hlt' : (k : Int) < (n : Int) := by omega
      obtain ⟨ND, hND0⟩ : ∃ x, wr.heap.size = x := ⟨_, rfl⟩
      have hND := hide hND0
      have hd1 : w.heap.size + 1 ≤ ND := hND0 ▸ hS
      have hdv : ∀ g, (Value.slice ov pn oc).ownBlock = some g → w.heap.size + 1 ≤ g ∧ g < ND := fun g hg => hND0 ▸ hO.lt g hg
      clear hs htk hve hpa hna ht1 hok hND0
      by_cases hcon : s.wr = wb ∧ 0 < s.n ∧ 0 < nl
      · obtain ⟨q1, q2, q3⟩ := hcon
        have hp1 : partsV wb nl [s] = [{ s with n := if s.n ≤ nl then s.n else nl }] := by simp only [partsV]; rw [if_pos ⟨q1, q2, q3⟩]
        have hn1' : leftV wb nl [s] = nl - if s.n ≤ nl then s.n else nl := by simp only [leftV]; rw [if_pos ⟨q1, q2, q3⟩]
        rw [hp1] at HPA
        rw [hn1'] at HNA
        have te : (s.wr == wb) = true := by simp [q1]
        clear hp1 hn1'
        obtain ⟨mn, hmn⟩ : ∃ x, (if s.n ≤ nl then s.n else nl) = x := ⟨_, rfl⟩
        rw [hmn] at HPA HNA
        have hmb : 0 < mn ∧ mn ≤ nl ∧ mn ≤ s.n := by rw [← hmn]; split <;> omega
        have emin : min s.n nl = mn := by rw [← hmn, Int.min_def]
        have emi2 : Hid ((if s.n ≤ nl then s.n else nl) = mn) := hide hmn
        obtain ⟨s2, hs2⟩ : ∃ x : Sg, { s with n := mn } = x := ⟨_, rfl⟩
        rw [hs2] at HPA
        have hs2n : s2.n = mn := by rw [← hs2]
        have HS2 := hide hs2
        clear hmn q1 hs2
        go_wp2_with (first | ((with_reducible refine ld_sm gb (k * 3) s cur _ hLr hmid ?_ ?_); exact rfl) | ((with_reducible refine al_sp ND ?_ ?_); exact hND.out; intro W hsr hb' hz; have hbc := hND.out ▸ hb'; replace hb := hb.trans (hb'.mono (by omega)); replace hP := hP.bl hbc; replace hLr := hLr.bl hbc; replace hO := own_bel hO hbc; replace hS := Nat.le_trans hS hbc.size; clear hb' hbc) | ((with_reducible refine st_sp ND _ s hsr ?_ ?_ ?_); exact rfl; exact rfl; intro W hnew ho; replace hz := hide (ho.size.trans hz.out); replace hP := hP.only ho (by omega); replace hLr := hLr.only ho (by omega); replace hO := own_only hO ho (fun e => absurd (hdv _ e).2 (by omega)); replace hb := ho.bel _ _ (by omega) hb; replace hS := (show w.heap.size + 1 ≤ W.heap.size by rw [ho.size]; exact hS); replace hsr := hnew; clear hnew ho) | ((with_reducible refine ld_swr ND _ _ hsr ?_ ?_ ?_); exact rfl; exact rfl) | ((with_reducible refine ld_sn ND _ _ hsr ?_ ?_ ?_); exact rfl; exact rfl) | ((with_reducible refine st_sn ND _ mn _ hsr ?_ ?_ ?_); exact rfl; (first | exact rfl | (exact congrArg _ emi2.out)); intro W hnew ho; rw [HS2.out] at hnew; replace hz := hide (ho.size.trans hz.out); replace hP := hP.only ho (by omega); replace hLr := hLr.only ho (by omega); replace hO := own_only hO ho (fun e => absurd (hdv _ e).2 (by omega)); replace hb := ho.bel _ _ (by omega) hb; replace hS := (show w.heap.size + 1 ≤ W.heap.size by rw [ho.size]; exact hS); replace hsr := hnew; clear hnew ho) | ((with_reducible refine ld_sp ND s2 hsr ?_ ?_ ?_); exact rfl; exact rfl) | ((with_reducible refine bs_s (ND + 1) ?_ s2 ?_ ?_); exact hz.out; exact rfl; intro W hbr hb' hz'; have hbc := hz.out ▸ hb'; replace hb := hb.trans (hb'.mono (by omega)); replace hP := hP.bl hbc; replace hO := own_bel hO hbc; replace hS := Nat.le_trans hS hbc.size; clear hb' hbc hz') | ((with_reducible refine app_s pl s2 pn HPN.out hO (ND + 1) hbr (by omega) hS ?_ ?_ ?_); exact rfl; exact rfl; intro W v' hL2 hg hbk; replace hP := grow_row hP hg (fun e => absurd (hdv _ e).1 (by omega)); have hwS := Nat.le_trans (Nat.le_succ _) hS; replace hb := grow_below hb hg hwS (fun g e => by have := (hdv g e).1; omega); replace hS := Nat.le_trans hS hg.size; replace hO := hL2; clear hL2 hg hbr))
        go_roundw
        case rel => exact ⟨k + 1, hlt, by go_num, by (rw [HNA.out]), by rw [HPA.out, List.length_append, HPN.out]; exact hO, hP, hb, hS⟩
        case measure => simp [intOf]; omega
      · have hp1 : partsV wb nl [s] = [] := by simp only [partsV]; rw [if_neg hcon]
        have hn1' : leftV wb nl [s] = nl := by simp only [leftV]; rw [if_neg hcon]
        rw [hp1, List.append_nil] at HPA
        rw [hn1'] at HNA
        clear hp1 hn1'
        by_cases q1 : s.wr = wb
        · have te : (s.wr == wb) = true := by simp [q1]
          by_cases q2 : 0 < s.n
          · have q3 : ¬ 0 < nl := fun e => hcon ⟨q1, q2, e⟩
            have t3 : decide (0 < nl) = false := by simpa using q3
            clear hcon q1
            go_wp2_with (first | ((with_reducible refine ld_sm gb (k * 3) s cur _ hLr hmid ?_ ?_); exact rfl) | ((with_reducible refine al_sp ND ?_ ?_); exact hND.out; intro W hsr hb' hz; have hbc := hND.out ▸ hb'; replace hb := hb.trans (hb'.mono (by omega)); replace hP := hP.bl hbc; replace hLr := hLr.bl hbc; replace hO := own_bel hO hbc; replace hS := Nat.le_trans hS hbc.size; clear hb' hbc) | ((with_reducible refine st_sp ND _ s hsr ?_ ?_ ?_); exact rfl; exact rfl; intro W hnew ho; replace hz := hide (ho.size.trans hz.out); replace hP := hP.only ho (by omega); replace hLr := hLr.only ho (by omega); replace hO := own_only hO ho (fun e => absurd (hdv _ e).2 (by omega)); replace hb := ho.bel _ _ (by omega) hb; replace hS := (show w.heap.size + 1 ≤ W.heap.size by rw [ho.size]; exact hS); replace hsr := hnew; clear hnew ho) | ((with_reducible refine ld_swr ND _ _ hsr ?_ ?_ ?_); exact rfl; exact rfl) | ((with_reducible refine ld_sn ND _ _ hsr ?_ ?_ ?_); exact rfl; exact rfl))
            go_roundw
            case rel => exact ⟨k + 1, hlt, by go_num, by rw [HNA.out], by rw [HPA.out, HPN.out]; exact hO, hP, hb, hS⟩
            case measure => simp [intOf]; omega
          · have t2 : decide (0 < s.n) = false := by simpa using q2
            clear hcon q1
            go_wp2_with (first | ((with_reducible refine ld_sm gb (k * 3) s cur _ hLr hmid ?_ ?_); exact rfl) | ((with_reducible refine al_sp ND ?_ ?_); exact hND.out; intro W hsr hb' hz; have hbc := hND.out ▸ hb'; replace hb := hb.trans (hb'.mono (by omega)); replace hP := hP.bl hbc; replace hLr := hLr.bl hbc; replace hO := own_bel hO hbc; replace hS := Nat.le_trans hS hbc.size; clear hb' hbc) | ((with_reducible refine st_sp ND _ s hsr ?_ ?_ ?_); exact rfl; exact rfl; intro W hnew ho; replace hz := hide (ho.size.trans hz.out); replace hP := hP.only ho (by omega); replace hLr := hLr.only ho (by omega); replace hO := own_only hO ho (fun e => absurd (hdv _ e).2 (by omega)); replace hb := ho.bel _ _ (by omega) hb; replace hS := (show w.heap.size + 1 ≤ W.heap.size by rw [ho.size]; exact hS); replace hsr := hnew; clear hnew ho) | ((with_reducible refine ld_swr ND _ _ hsr ?_ ?_ ?_); exact rfl; exact rfl) | ((with_reducible refine ld_sn ND _ _ hsr ?_ ?_ ?_); exact rfl; exact rfl))
            go_roundw
            case rel => exact ⟨k + 1, hlt, by go_num, by rw [HNA.out], by rw [HPA.out, HPN.out]; exact hO, hP, hb, hS⟩
            case measure => simp [intOf]; omega
        · have te : (s.wr == wb) = false := by simpa using q1
          clear hcon
          go_wp2_with (first | ((with_reducible refine ld_sm gb (k * 3) s cur _ hLr hmid ?_ ?_); exact rfl) | ((with_reducible refine al_sp ND ?_ ?_); exact hND.out; intro W hsr hb' hz; have hbc := hND.out ▸ hb'; replace hb := hb.trans (hb'.mono (by omega)); replace hP := hP.bl hbc; replace hLr := hLr.bl hbc; replace hO := own_bel hO hbc; replace hS := Nat.le_trans hS hbc.size; clear hb' hbc) | ((with_reducible refine st_sp ND _ s hsr ?_ ?_ ?_); exact rfl; exact rfl; intro W hnew ho; replace hz := hide (ho.size.trans hz.out); replace hP := hP.only ho (by omega); replace hLr := hLr.only ho (by omega); replace hO := own_only hO ho (fun e => absurd (hdv _ e).2 (by omega)); replace hb := ho.bel _ _ (by omega) hb; replace hS := (show w.heap.size + 1 ≤ W.heap.size by rw [ho.size]; exact hS); replace hsr := hnew; clear hnew ho) | ((with_reducible refine ld_swr ND _ _ hsr ?_ ?_ ?_); exact rfl; exact rfl) | ((with_reducible refine ld_sn ND _ _ hsr ?_ ?_ ?_); exact rfl; exact rfl))
          go_roundw
          case rel => exact ⟨k + 1, hlt, by go_num, by rw [HNA.out], by rw [HPA.out, HPN.out]; exact hO, hP, hb, hS⟩
          case measure => simp [intOf]; omega
    · obtain rfl : k = n := by omega
      have htl : l.take k = l := by rw [← HN.out, List.take_length]
      rw [htl] at HPL
      have hpok := partsV_ok wb l n0 hw
      rw [HPL.out] at hpok
      have HC : Hid (Calls prog 127 #[.slice ov pn oc, .func (.func 128) #[] #[.pointer (some ⟨w.heap.size, 0, none⟩)]] wr fun e w' => e = .returned (.bool (!pl.all (inS p))) ∧ Below wr.heap.size wr w') := hide (con_seg pl (by rw [HPN.out]; omega) (fun s hs => ⟨(hpok s hs).1, (hpok s hs).2.1⟩) (HM.out.bl hb) (HA.out.bl hb) hP (by rw [HPN.out]; exact hO))
      obtain ⟨bo, hbo⟩ : ∃ x, pl.all (inS p) = x := ⟨_, rfl⟩
      rw [hbo] at HC
      have HBO := hide hbo
      have hnlt : ¬ (k : Int) < (k : Int) := by omega
      clear hbo hpok
      cases bo with
      | true =>
        go_wp2_with (first | (go_at_call 127; (with_reducible refine HC.out.mono ?_); rintro e W2 ⟨rfl, hb2⟩))
        go_ret2
        exact ⟨hb.trans (hb2.mono hb.size), .inl ⟨by rw [HPL.out]; exact HBO.out, _, rfl, by rw [HPL.out, HPN.out]; exact own_lower1 (own_bel hO hb2)⟩⟩
      | false =>
        go_wp2_with (first | (go_at_call 127; (with_reducible refine HC.out.mono ?_); rintro e W2 ⟨rfl, hb2⟩))
        go_ret2
        exact ⟨hb.trans (hb2.mono hb.size), .inr ⟨by rw [HPL.out]; exact HBO.out, rfl⟩⟩
end Go.Proofs.YtbggkoahofnnjaaGreatDoor
