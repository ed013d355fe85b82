/-
  What ring's Walk answers.
-/
import Derived.Test.YtbggkoahofnnjaaDoorJK17
namespace Go.Proofs.YtbggkoahofnnjaaDoor
open Go.RowKit
set_option linter.unusedVariables false
set_option linter.unusedSimpArgs false

theorem own_row {w : World} {B e size n : Nat} {v : Value} {xs : List Value} (h : w.ownsRow B e size v n xs) (hn : 0 < n) : ∃ g cap cur, v = .slice (some ⟨g, 0, none⟩) n cap ∧ n ≤ cap ∧ cap ≤ maxLen ∧ B ≤ g ∧ RowAt w g cur e ∧ cur.size = cap * size ∧ cur.toList.take (n * size) = xs := by
  rcases h.2 with ⟨_, h2⟩ | ⟨g, cap, cur, h1, h2, h3, h4, h5, h6, h7⟩
  · omega
  · exact ⟨g, cap, cur, h1, h4, h5, h2, h3, h6, h7⟩
theorem mid_of {cur vs : Array Value} {xs : List Value} {m o : Nat} (ht : cur.toList.take m = xs) (hv : ∀ i, i < vs.size → xs[o + i]? = vs[i]?) : (cur.extract o (o + vs.size)).toList = vs.toList := by
  have hc : ∀ i, i < vs.size → cur[o + i]? = vs[i]? := by
    intro i hi
    have h1 := hv i hi
    rw [← ht, List.getElem?_take] at h1
    split at h1
    · rw [← h1, Array.getElem?_toList]
    · rw [Array.getElem?_eq_getElem hi] at h1; cases h1
  apply List.ext_getElem?
  intro i
  rw [Array.getElem?_toList, Array.getElem?_toList, Array.getElem?_extract]
  by_cases hi : i < vs.size
  · have h2 := hc i hi
    have hlt : o + i < cur.size := by
      rcases Nat.lt_or_ge (o + i) cur.size with e | e
      · exact e
      · rw [Array.getElem?_eq_none e, Array.getElem?_eq_getElem hi] at h2; cases h2
    rw [if_pos (by omega), h2]
  · rw [if_neg (by omega), Array.getElem?_eq_none (by omega)]
theorem mid_d {cur : Array Value} {l : List (Nat → Nat)} {m k : Nat} {d : Nat → Nat} (ht : cur.toList.take m = dscL l) (hk : l[k]? = some d) : (cur.extract (k * 4) (k * 4 + (dscV d).size)).toList = (dscV d).toList :=
  mid_of ht (fun i hi => dscL_at l k d hk i hi)
theorem mid_s {cur : Array Value} {l : List Sg} {m k : Nat} {d : Sg} (ht : cur.toList.take m = segL l) (hk : l[k]? = some d) : (cur.extract (k * 3) (k * 3 + d.cells.size)).toList = d.cells.toList :=
  mid_of ht (fun i hi => segL_at l k d hk i hi)
variable {ops : Array Oper} {rest : List Oper} {dst : Option Tmp} {ty : TypeId} {pos : String} {after : Array Edge} {a : Act} {w : World} {Q : Exit → Act → World → Prop} {x y : Operand} {gd : Option (Nat × Bool)}
theorem ld_dm (b j : Nat) (d : Nat → Nat) (cur : Array Value) (hr : RowAt w b cur 125) (hm : (cur.extract j (j + (dscV d).size)).toList = (dscV d).toList) (hx : a.eval x = .pointer (some ⟨b, j, none⟩))
    (k : wpList Tryd.prog ops Q rest (a.put dst (.agg (dscV d))) w) : wpList Tryd.prog ops Q (⟨dst, .load 125 x, ty, pos, after, none⟩ :: rest) a w :=
  op_load_mid b j hx cur (dscV d) _ hr hm _ Tryd.underlying125 rfl size_dp k
theorem ld_sm (b j : Nat) (d : Sg) (cur : Array Value) (t' : TypeId) (hr : RowAt w b cur t') (hm : (cur.extract j (j + d.cells.size)).toList = d.cells.toList) (hx : a.eval x = .pointer (some ⟨b, j, none⟩))
    (k : wpList Tryd.prog ops Q rest (a.put dst (.agg d.cells)) w) : wpList Tryd.prog ops Q (⟨dst, .load 104 x, ty, pos, after, none⟩ :: rest) a w :=
  op_load_mid b j hx cur d.cells _ hr hm _ Tryd.underlying104 rfl size_sp k
set_option maxHeartbeats 2000000 in
theorem idx_odd (l : List (Nat → Nat)) (hl : l.length ≤ 256) (hw : ∀ g ∈ l, ∀ i, g i < 4294967296) {w : World} {B b p c T U Mb gb cap : Nat} {tT tU tM : TypeId} {f : Nat → Nat} {O : Nat → Prop} {cur : Array Value} (hM : RamB w B b p f c O) (hA : AreasAt w) (hG : 0 < B)
    (hT : RowAt w T #[.int .u64 0] tT) (hU : RowAt w U #[.bool false] tU) (hP : RowAt w Mb #[.pointer (some ⟨b, 0, none⟩)] tM) (hTU : T ≠ U) (hTM : T ≠ Mb) (hUM : U ≠ Mb) (hBT : B ≤ T) (hBU : B ≤ U) (hnT : ¬ O T) (hnU : ¬ O U) (hL : RowAt w gb cur 125) (ht : cur.toList.take (l.length * 4) = dscL l) (hgT : gb ≠ T) (hgU : gb ≠ U) :
    Calls Tryd.prog 60 #[.slice (some ⟨gb, 0, none⟩) l.length cap, .func (.func 61) #[] #[.pointer (some ⟨T, 0, none⟩), .pointer (some ⟨U, 0, none⟩), .pointer (some ⟨Mb, 0, none⟩)]] w fun e w' => ∃ z : Int, e = .returned (.int .i64 z) ∧ (0 ≤ z ↔ oddL p 0 false l = true) ∧ Went B (Two T U) (Two T U) w w' := by
  have HM := hide hM
  have HA := hide hA
  have HP := hide hP
  have HL := hide hL
  obtain ⟨n, hn⟩ : ∃ n, l.length = n := ⟨_, rfl⟩
  have HN := hide hn
  rw [hn] at hl ht ⊢
  have HT := hide ht
  have hOT : Hid (∀ x, O x → ¬ Two T U x) := hide (fun x hx e => by rcases e with rfl | rfl; exact hnT hx; exact hnU hx)
  have hGT : ¬ Two T U gb := fun e => by rcases e with e | e; exact hgT e; exact hgU e
  have hMT : ¬ Two T U Mb := fun e => by rcases e with e | e; exact hTM e.symm; exact hUM e.symm
  have hB0 := hM.base
  clear hM hA hP hL ht hn
  go_enter Tryd.func60, Tryd.ntmps60
  go_wp2
  go_loopw [8] (fun iv wr => ∃ (k tot : Nat) (wv : Bool), k ≤ n ∧ iv = .int .i64 (k : Nat) ∧ oddL p 0 false l = oddL p tot wv (l.drop k) ∧ tot ≤ 4294967296 * k ∧ RowAt wr T #[.int .u64 (tot : Nat)] tT ∧ RowAt wr U #[.bool wv] tU ∧ Went B (Two T U) (Two T U) w wr) (fun iv _ => n - (intOf iv).toNat)
  case atStart => exact ⟨0, 0, false, Nat.zero_le _, rfl, rfl, Nat.zero_le _, hT, hU, Went.refl _ _ _⟩
  case round =>
    clear hT hU
    obtain ⟨k, tot, wv, hk, rfl, hod, htt, hT, hU, hW⟩ := hrel
    have HOD := hide hod
    clear hod
    have hL := hW.row HL.out hGT
    by_cases hlt : k < n
    · obtain ⟨d, hd⟩ : ∃ d, l[k]? = some d := ⟨_, List.getElem?_eq_getElem (by rw [HN.out]; exact hlt)⟩
      have hmid := mid_d HT.out hd
      have hdr : l.drop k = d :: l.drop (k + 1) := by
        obtain ⟨h1, h2⟩ := List.getElem?_eq_some_iff.1 hd
        rw [List.drop_eq_getElem_cons h1, h2]
      have hgw := hw d (List.mem_of_getElem? hd)
      have hg2 := hgw 2
      have HC : Hid (Calls Tryd.prog 61 #[.agg (dscV d), .pointer (some ⟨T, 0, none⟩), .pointer (some ⟨U, 0, none⟩), .pointer (some ⟨Mb, 0, none⟩)] wr fun e w' => e = .returned (.bool (oddD p tot wv d)) ∧ RowAt w' T #[.int .u64 ((tot + d 2 : Nat) : Int)] tT ∧ RowAt w' U #[.bool (hasD d 2)] tU ∧ Went B (Two T U) (Two T U) wr w') :=
        hide (odd_step d hgw tot wv (by omega) (HM.out.beside hW hOT.out) (HA.out.wentR hG hW) hG hT hU (hW.row HP.out hMT) hTU hTM hUM hBT hBU hnT hnU)
      have hoc : oddL p tot wv (l.drop k) = (oddD p tot wv d || oddL p (tot + d 2) (hasD d 2) (l.drop (k + 1))) := by rw [hdr]; rfl
      have HOC := hide hoc
      obtain ⟨bo, hbo⟩ : ∃ x, oddD p tot wv d = x := ⟨_, rfl⟩
      rw [hbo] at HC HOC
      clear hd hdr hoc hbo hgw
      have ldm : Hid (RowAt wr gb cur 125) := hide hL
      cases bo with
      | true =>
        go_wp2_with (first | ((with_reducible refine ld_dm gb (k * 4) d cur hL hmid ?_ ?_); exact rfl) | (go_at_call 61; (with_reducible refine HC.out.mono ?_); rintro e W2 ⟨rfl, hT2, hU2, hW2⟩))
        go_ret
        refine ⟨_, rfl, ⟨fun _ => by rw [HOD.out, HOC.out]; rfl, fun _ => by omega⟩, hW.trans hW2⟩
      | false =>
        go_wp2_with (first | ((with_reducible refine ld_dm gb (k * 4) d cur hL hmid ?_ ?_); exact rfl) | (go_at_call 61; (with_reducible refine HC.out.mono ?_); rintro e W2 ⟨rfl, hT2, hU2, hW2⟩))
        go_roundw
        case rel => exact ⟨k + 1, tot + d 2, hasD d 2, hlt, by go_num, by rw [HOD.out, HOC.out]; rfl, by omega, hT2, hU2, hW.trans hW2⟩
        case measure => simp [intOf]; omega
    · obtain rfl : k = n := by omega
      go_wp2
      go_ret
      refine ⟨_, rfl, ⟨fun e => absurd e (by decide), fun e => ?_⟩, hW⟩
      rw [HOD.out, ← HN.out, List.drop_length] at e
      cases e
set_option maxHeartbeats 1000000 in
theorem con_odd (l : List (Nat → Nat)) (hl : l.length ≤ 256) (hw : ∀ g ∈ l, ∀ i, g i < 4294967296) {w : World} {B b p c T U Mb gb cap : Nat} {tT tU tM : TypeId} {f : Nat → Nat} {O : Nat → Prop} {cur : Array Value} (hM : RamB w B b p f c O) (hA : AreasAt w) (hG : 0 < B)
    (hT : RowAt w T #[.int .u64 0] tT) (hU : RowAt w U #[.bool false] tU) (hP : RowAt w Mb #[.pointer (some ⟨b, 0, none⟩)] tM) (hTU : T ≠ U) (hTM : T ≠ Mb) (hUM : U ≠ Mb) (hBT : B ≤ T) (hBU : B ≤ U) (hnT : ¬ O T) (hnU : ¬ O U) (hL : RowAt w gb cur 125) (ht : cur.toList.take (l.length * 4) = dscL l) (hgT : gb ≠ T) (hgU : gb ≠ U) :
    Calls Tryd.prog 46 #[.slice (some ⟨gb, 0, none⟩) l.length cap, .func (.func 61) #[] #[.pointer (some ⟨T, 0, none⟩), .pointer (some ⟨U, 0, none⟩), .pointer (some ⟨Mb, 0, none⟩)]] w fun e w' => e = .returned (.bool (oddL p 0 false l)) ∧ Went B (Two T U) (Two T U) w w' := by
  have HI := hide (idx_odd (cap := cap) l hl hw hM hA hG hT hU hP hTU hTM hUM hBT hBU hnT hnU hL ht hgT hgU)
  generalize oddL p 0 false l = ob at HI ⊢
  generalize l.length = n at HI ⊢
  clear hM hA hT hU hP hL ht hl hw
  go_enter Tryd.func46, Tryd.ntmps46
  go_wp2_with (first | (go_at_call 60; (with_reducible refine HI.out.mono ?_); rintro e W2 ⟨z, rfl, hz, hW2⟩))
  go_ret
  exact ⟨rfl, hW2⟩
set_option maxHeartbeats 1000000 in
theorem oio_any (b : Nat) (w : World) : Calls Tryd.prog 47 #[.pointer (some ⟨b, 0, none⟩)] w fun e w' => e = .returned (.func (.func 61) #[] #[.pointer (some ⟨w.heap.size + 1, 0, none⟩), .pointer (some ⟨w.heap.size + 1 + 1, 0, none⟩), .pointer (some ⟨w.heap.size, 0, none⟩)]) ∧
    RowAt w' (w.heap.size + 1) #[.int .u64 0] 133 ∧ RowAt w' (w.heap.size + 1 + 1) #[.bool false] 4 ∧ RowAt w' w.heap.size #[.pointer (some ⟨b, 0, none⟩)] 26 ∧ Below w.heap.size w w' ∧ w'.heap.size = w.heap.size + 1 + 1 + 1 := by
  go_enter Tryd.func47, Tryd.ntmps47
  go_wp2
  go_ret
  exact ⟨rfl, (RowAt.new _ _ _ _ (by simp)).al _, RowAt.new _ _ _ _ (by simp), ((RowAt.new _ _ _ _ rfl).al _).al _, below_three _ _ _ _, by simp⟩
end Go.Proofs.YtbggkoahofnnjaaDoor
namespace Go.Proofs.YtbggkoahofnnjaaDoor
open Go.RowKit
set_option linter.unusedVariables false
set_option linter.unusedSimpArgs false

attribute [local go_sem] Rg.at0 Rg.at1 Rg.at2 Rg.at3 Rg.at4 Rg.at5
def sgOf (g : Nat → Nat) : Sg := ⟨g 0, (g 2 : Nat), hasD g 2⟩
/-- A chain's parts. -/
def walkV (p : Nat) (f : Nat → Nat) (r : Rg) (hd : Int) : Option (List Sg) :=
  match followV p f r r.sz.toNat hd with
  | none => none
  | some l => if oddL p 0 false l then none else some (l.map sgOf)
theorem Went.two {B T U : Nat} {O O1 : Nat → Prop} {w0 w W : World} (h : Went B O O1 w0 w) (k : Went B (Two T U) (Two T U) w W) (hT : w0.heap.size ≤ T) (hU : w0.heap.size ≤ U) : Went B O O1 w0 W :=
  ⟨h.below.trans k.below, Nat.le_trans h.size k.size, fun x hx hn => (k.other x (Nat.lt_of_lt_of_le hx h.size) (fun e => by rcases e with e | e <;> omega)).trans (h.other x hx hn), h.own⟩
theorem putAll_size : ∀ (vs : List Value) (cs : Array Value) (o : Nat), (putAll cs o vs).size = cs.size
  | [], _, _ => rfl
  | v :: r, cs, o => (putAll_size r _ (o + 1)).trans (by simp)
theorem putAll_get : ∀ (vs : List Value) (cs : Array Value) (o j : Nat), o + vs.length ≤ cs.size → (putAll cs o vs)[j]? = if o ≤ j ∧ j < o + vs.length then vs[j - o]? else cs[j]?
  | [], cs, o, j, _ => by simp [putAll]; omega
  | v :: r, cs, o, j, h => by
    simp only [List.length_cons] at h
    simp only [putAll]
    rw [putAll_get r _ (o + 1) j (by simp; omega)]
    by_cases h1 : o + 1 ≤ j ∧ j < o + 1 + r.length
    · rw [if_pos h1, if_pos (by simp; omega), show j - o = (j - (o + 1)) + 1 by omega, List.getElem?_cons_succ]
    · rw [if_neg h1]
      by_cases h2 : j = o
      · subst h2
        rw [if_pos (by simp), Nat.sub_self, List.getElem?_cons_zero, Array.getElem?_setIfInBounds_self_of_lt (by omega)]
      · rw [if_neg (by simp; omega), Array.getElem?_setIfInBounds_ne (by omega)]
/-- One more part laid. -/
theorem seg_put {cur : Array Value} {l : List Sg} {g : Sg} {n : Nat} (hs : cur.size = n * 3) (hl : l.length < n) (hc : ∀ (j : Nat) (u : Value), (segL l)[j]? = some u → cur[j]? = some u) :
    (putAll cur (l.length * 3) g.cells.toList).size = n * 3 ∧ ∀ (j : Nat) (u : Value), (segL (l ++ [g]))[j]? = some u → (putAll cur (l.length * 3) g.cells.toList)[j]? = some u := by
  refine ⟨(putAll_size _ _ _).trans hs, fun j u hj => ?_⟩
  have h3 : g.cells.toList.length = 3 := rfl
  rw [putAll_get _ _ _ _ (by rw [h3]; omega), h3]
  rw [segL_app, segL_one] at hj
  by_cases h : j < l.length * 3
  · rw [if_neg (by omega)]
    rw [List.getElem?_append_left (by rw [segL_len]; exact h)] at hj
    exact hc j u hj
  · rw [List.getElem?_append_right (by rw [segL_len]; omega), segL_len] at hj
    have hlt : j - l.length * 3 < 3 := by have := (List.getElem?_eq_some_iff.1 hj).1; rwa [h3] at this
    rw [if_pos (by omega)]
    exact hj
theorem own_of_segs {w : World} {B g n : Nat} {cur : Array Value} {l : List Sg} (hr : RowAt w g cur 104) (hB : B ≤ g) (hn : l.length = n) (hs : cur.size = n * 3) (hm : n ≤ maxLen) (hc : ∀ (j : Nat) (u : Value), (segL l)[j]? = some u → cur[j]? = some u) :
    w.ownsRow B 104 3 (.slice (some ⟨g, 0, none⟩) n n) n (segL l) := by
  refine ⟨by rw [segL_len, hn], .inr ⟨g, n, cur, rfl, hB, hr, Nat.le_refl _, hm, hs, ?_⟩⟩
  rw [List.take_of_length_le (by rw [Array.length_toList, hs]; exact Nat.le_refl _)]
  apply List.ext_getElem?
  intro j
  rw [Array.getElem?_toList]
  by_cases h : j < (segL l).length
  · rw [List.getElem?_eq_getElem h]
    exact hc j _ (List.getElem?_eq_getElem h)
  · rw [List.getElem?_eq_none (by omega), Array.getElem?_eq_none (by rw [hs, ← hn, ← segL_len]; omega)]
variable {ops : Array Oper} {rest : List Oper} {dst : Option Tmp} {ty : TypeId} {pos : String} {after : Array Edge} {a : Act} {w : World} {Q : Exit → Act → World → Prop} {K : Act → World → Prop} {x y : Operand}
theorem mk_s (n : Nat) (hn : n ≤ 1000000) (N : Nat) (hN : w.heap.size = N) (hx : a.eval x = .int .i64 (n : Nat))
    (k : ∀ W cur, RowAt W N cur 104 → cur.size = n * 3 → Below N w W → Hid (W.heap.size = N + 1) → wpList Tryd.prog ops Q rest (a.put dst (.slice (some ⟨N, 0, none⟩) n n)) W) :
    wpList Tryd.prog ops Q (⟨dst, .makeSlice 63 x x, ty, pos, after, none⟩ :: rest) a w := by
  subst hN
  obtain ⟨i, h1, h2, h3, h4⟩ := info_s
  have hr := run_make (P := Tryd.prog) w 63 104 i _ Tryd.underlying63 h1 h2 .i64 .i64 (n : Int) (n : Int) (by omega) (Int.le_refl _) (by rw [h4]; omega) (by omega)
  rw [Int.toNat_natCast, h3] at hr
  refine wpList_plain rfl fun K hK => ?_
  unfold Oper.wp
  have : (execOp a.eval ⟨dst, .makeSlice 63 x x, ty, pos, after, none⟩).run Tryd.prog w = .ok (.value (.slice (some ⟨w.heap.size, 0, none⟩) n n)) (w.alloc (.cells (madeCells zeroSg.cells (n * 3)) 104)) := by
    unfold execOp
    simp only [hx, Sem.run_bind, hr, Result.andThen_ok, Sem.run_pure]
    rfl
  rw [this, Oper.upon_value]
  exact hK _ _ (k _ _ (RowAt.new w _ _ _ rfl) (size_madeCells _ _) (below_one w _) (hide (by simp)))
/-- A part stored amid others. -/
theorem s_sm (b o : Nat) (g : Sg) (old : Array Value) (t' : TypeId) (hr : RowAt w b old t') (hs : o + 3 ≤ old.size) (hx : a.eval x = .pointer (some ⟨b, o, none⟩)) (hy : a.eval y = .agg g.cells)
    (k : ∀ W, RowAt W b (putAll old o g.cells.toList) t' → Only b w W → K (a.put dst undef) W) :
    Oper.wp Tryd.prog ⟨dst, .store 104 x y, ty, pos, after, none⟩ a w K Q :=
  wp_store_mid 104 x y rfl b o g.cells hx hy (hr.thereAt o _ hs) size_sp (sg_one g) (k _ (RowAt.puts g.cells.toList o hr) (only_setCells b o g.cells.toList w))
set_option maxHeartbeats 1000000 in
theorem walk_nf (r : Rg) (hr0 : r.Ok) (hc : chkR r = true) (hd : Int) {w : World} {B b p c : Nat} {f : Nat → Nat} {O : Nat → Prop} (h : RamB w B b p f c O) (hA : AreasAt w) (hG : 0 < B) (hf : followV p f r r.sz.toNat hd = none) : Calls Tryd.prog 29 #[.agg r.cells, .pointer (some ⟨b, 0, none⟩), .int .i64 hd] w fun e w' => e = .returned (.tuple #[.slice none 0 0, .iface 59 (.int .i64 22)]) ∧ ∃ O', RamB w' B b p f c O' ∧ Went B O O' w w' := by
  have hB0 := h.base
  have hGw : 0 < w.heap.size := Nat.lt_of_lt_of_le hG hB0
  have hA0 := hA
  clear hA
  have HC : Hid (∀ W, Calls Tryd.prog 42 #[.agg r.cells, .pointer (some ⟨b, 0, none⟩)] W fun e w' => e = .returned .nilIface ∧ Below W.heap.size W w') := hide (fun W => by have := rcheckw_any r hr0 b W; rw [hc] at this; exact this)
  have HF : Hid (∀ W O1, RamB W B b p f c O1 → AreasAt W → Calls Tryd.prog 45 #[.agg r.cells, .pointer (some ⟨b, 0, none⟩), .int .i64 hd] W fun e w' => e = .returned (.tuple #[.slice none 0 0, .iface 59 (.int .i64 22)]) ∧ ∃ O', RamB w' B b p f c O' ∧ Went B O1 O' W w') := hide (fun W O1 hM hA => (follow_any r hr0 hc hd hM hA hG).mono (by
    rintro e w' ⟨O', a1, a2, ⟨_, a4⟩ | ⟨l, v, a3, _⟩⟩
    · exact ⟨a4, O', a1, a2⟩
    · rw [hf] at a3; cases a3))
  clear hc hr0 hf
  go_enter Tryd.func29, Tryd.ntmps29
  go_wp2_with (first | ((with_reducible refine bx_rp w.heap.size r ?_ ?_ ?_); exact rfl; exact rfl; intro W hr hb hz; have hM := h.bl hb; have hW := Went.of (O := O) hb hB0; have hA := hA0.bl hb; have hF := h.far 1; have hS : w.heap.size + 1 ≤ W.heap.size := Nat.le_of_eq hz.out.symm; have hB : B ≤ W.heap.size := Nat.le_trans hB0 hb.size; clear hb hz) | ((with_reducible refine ld_rp w.heap.size _ hr ?_ ?_ ?_); exact rfl; exact rfl) | (go_at_call 42; (with_reducible refine (HC.out _).mono ?_); rintro e W ⟨rfl, hbc⟩; replace hM := hM.bl hbc; replace hW := hW.bl hbc hB; replace hA := hA.bl hbc; replace hB := Nat.le_trans hB hbc.size; replace hS := Nat.le_trans hS hbc.size; replace hr := hr.bl hbc) | (go_at_call 45; (with_reducible refine (HF.out _ _ hM hA).mono ?_); rintro e W2 ⟨rfl, O2, hM2, hW2⟩; replace hr := hW2.row hr (hF.at 0 (by omega)); replace hA := hA.wentR hG hW2; replace hF := hF.went hW2 hS; replace hS := Nat.le_trans hS hW2.size; replace hW := hW.trans hW2; replace hB := Nat.le_trans hB hW2.size; replace hM := hM2; clear hM2 hW2))
  go_ret2
  exact ⟨rfl, _, hM, hW⟩
set_option maxHeartbeats 2000000 in
theorem walk_odd (r : Rg) (hr0 : r.Ok) (hc : chkR r = true) (hd : Int) {w : World} {B b p c : Nat} {f : Nat → Nat} {O : Nat → Prop} (h : RamB w B b p f c O) (hA : AreasAt w) (hG : 0 < B) (l : List (Nat → Nat)) (hf : followV p f r r.sz.toNat hd = some l) (ho : oddL p 0 false l = true) : Calls Tryd.prog 29 #[.agg r.cells, .pointer (some ⟨b, 0, none⟩), .int .i64 hd] w fun e w' => e = .returned (.tuple #[.slice none 0 0, .iface 59 (.int .i64 22)]) ∧ ∃ O', RamB w' B b p f c O' ∧ Went B O O' w w' := by
  have hB0 := h.base
  have hGw : 0 < w.heap.size := Nat.lt_of_lt_of_le hG hB0
  have hA0 := hA
  clear hA
  have HC : Hid (∀ W, Calls Tryd.prog 42 #[.agg r.cells, .pointer (some ⟨b, 0, none⟩)] W fun e w' => e = .returned .nilIface ∧ Below W.heap.size W w') := hide (fun W => by have := rcheckw_any r hr0 b W; rw [hc] at this; exact this)
  obtain ⟨kz, hkz, _, hkz1⟩ := chkR_sz hc
  obtain ⟨hlk, hlp⟩ := follow_len _ _ _ hf
  have hll : l.length ≤ 256 := by omega
  have hww := follow_words h.small _ _ _ hf
  have HF : Hid (∀ W O1, RamB W B b p f c O1 → AreasAt W → Calls Tryd.prog 45 #[.agg r.cells, .pointer (some ⟨b, 0, none⟩), .int .i64 hd] W fun e w' => ∃ O' v, e = .returned (.tuple #[v, .nilIface]) ∧ RamB w' B b p f c O' ∧ Went B O1 O' W w' ∧ w'.ownsRow W.heap.size 125 4 v l.length (dscL l) ∧ ∀ g, v.ownBlock = some g → ¬ O' g) := hide (fun W O1 hM hA => (follow_any r hr0 hc hd hM hA hG).mono (by
    rintro e w' ⟨O', a1, a2, ⟨a3, _⟩ | ⟨l', v, a3, a4, a5, a6⟩⟩
    · rw [hf] at a3; cases a3
    · rw [hf] at a3; cases a3; exact ⟨O', v, a4, a1, a2, a5, a6⟩))
  have HO : Hid (∀ W NX, W.heap.size = NX → Calls Tryd.prog 47 #[.pointer (some ⟨b, 0, none⟩)] W fun e w' => e = .returned (.func (.func 61) #[] #[.pointer (some ⟨NX + 1, 0, none⟩), .pointer (some ⟨NX + 1 + 1, 0, none⟩), .pointer (some ⟨NX, 0, none⟩)]) ∧
    RowAt w' (NX + 1) #[.int .u64 0] 133 ∧ RowAt w' (NX + 1 + 1) #[.bool false] 4 ∧ RowAt w' NX #[.pointer (some ⟨b, 0, none⟩)] 26 ∧ Below NX W w' ∧ w'.heap.size = NX + 1 + 1 + 1) := hide (fun W NX e => by subst e; exact oio_any b W)
  have HCN : Hid (∀ W O1 cap gb cur NX, RamB W B b p f c O1 → AreasAt W → RowAt W (NX + 1) #[.int .u64 0] 133 → RowAt W (NX + 1 + 1) #[.bool false] 4 → RowAt W NX #[.pointer (some ⟨b, 0, none⟩)] 26 → RowAt W gb cur 125 → cur.toList.take (l.length * 4) = dscL l → gb < NX → B ≤ NX → ¬ O1 (NX + 1) → ¬ O1 (NX + 1 + 1) →
      Calls Tryd.prog 46 #[.slice (some ⟨gb, 0, none⟩) l.length cap, .func (.func 61) #[] #[.pointer (some ⟨NX + 1, 0, none⟩), .pointer (some ⟨NX + 1 + 1, 0, none⟩), .pointer (some ⟨NX, 0, none⟩)]] W fun e w' => e = .returned (.bool (oddL p 0 false l)) ∧ Went B (Two (NX + 1) (NX + 1 + 1)) (Two (NX + 1) (NX + 1 + 1)) W w') :=
    hide (fun W O1 cap gb cur NX hM hA hT hU hP hL ht hg hBN n1 n2 => con_odd l hll hww hM hA hG hT hU hP (by omega) (by omega) (by omega) (by omega) (by omega) n1 n2 hL ht (by omega) (by omega))
  rw [ho] at HCN
  have HNP := hide hlp
  generalize l.length = n at *
  clear hc hr0 hf ho hww hkz hlp
  go_enter Tryd.func29, Tryd.ntmps29
  go_wp2_with (first | ((with_reducible refine bx_rp w.heap.size r ?_ ?_ ?_); exact rfl; exact rfl; intro W hr hb hz; have hM := h.bl hb; have hW := Went.of (O := O) hb hB0; have hA := hA0.bl hb; have hF := h.far 1; have hS : w.heap.size + 1 ≤ W.heap.size := Nat.le_of_eq hz.out.symm; have hB : B ≤ W.heap.size := Nat.le_trans hB0 hb.size; clear hb hz) | ((with_reducible refine ld_rp w.heap.size _ hr ?_ ?_ ?_); exact rfl; exact rfl) | (go_at_call 42; (with_reducible refine (HC.out _).mono ?_); rintro e W ⟨rfl, hbc⟩; replace hM := hM.bl hbc; replace hW := hW.bl hbc hB; replace hA := hA.bl hbc; replace hB := Nat.le_trans hB hbc.size; replace hS := Nat.le_trans hS hbc.size; replace hr := hr.bl hbc) | (go_at_call 45; (with_reducible refine (HF.out _ _ hM hA).mono ?_); rintro e W2 ⟨O2, v2, rfl, hM2, hW2, hL, hLn⟩; have hBL := hS; replace hr := hW2.row hr (hF.at 0 (by omega)); replace hA := hA.wentR hG hW2; replace hF := hF.went hW2 hS; replace hS := Nat.le_trans hS hW2.size; replace hW := hW.trans hW2; replace hB := Nat.le_trans hB hW2.size; replace hM := hM2; clear hM2 hW2; obtain ⟨gb, cap, cur, rfl, hc1, hc2, hgb, hLr, hcs, htk⟩ := own_row hL HNP.out; have hLn := hLn gb rfl; obtain ⟨NX, hNX0⟩ : ∃ n, W2.heap.size = n := ⟨_, rfl⟩; have hNX := hide hNX0; have hN1 : w.heap.size + 1 ≤ NX := hNX0 ▸ hS; have hN2 : B ≤ NX := hNX0 ▸ hB; have hN3 : gb < NX := hNX0 ▸ hLr.lt; have hN4 : w.heap.size + 1 ≤ gb := Nat.le_trans hBL hgb; have hn1 : ¬ O2 (NX + 1) := (fun e => absurd (hM.lt _ e) (by omega)); have hn2 : ¬ O2 (NX + 1 + 1) := (fun e => absurd (hM.lt _ e) (by omega)); have HTK := hide htk; clear hNX0 htk hcs hL hgb hBL) | (go_at_call 47; (with_reducible refine (HO.out _ NX hNX.out).mono ?_); rintro e W4 ⟨rfl, hT, hU, hP, hb', hsz⟩; have hbc := hNX.out.symm ▸ hb'; replace hM := hM.bl hbc; replace hW := hW.bl hbc hB; replace hA := hA.bl hbc; replace hB := Nat.le_trans hB hbc.size; replace hS := Nat.le_trans hS hbc.size; replace hr := hr.bl hbc; replace hLr := hLr.bl hbc; clear hbc hb' hsz) | (go_at_call 46; (with_reducible refine (HCN.out _ _ _ _ _ _ hM hA hT hU hP hLr HTK.out hN3 hN2 hn1 hn2).mono ?_); rintro e W5 ⟨rfl, hW5⟩; have hOT : ∀ x, O2 x → ¬ Two (NX + 1) (NX + 1 + 1) x := (fun x hx e => by rcases e with rfl | rfl; exact hn1 hx; exact hn2 hx); replace hM := hM.beside hW5 hOT; replace hA := hA.wentR hG hW5; replace hr := hW5.row hr (fun e => by rcases e with e | e <;> omega); replace hLr := hW5.row hLr (fun e => by rcases e with e | e <;> omega); replace hW := hW.two hW5 (by omega) (by omega); replace hS := Nat.le_trans hS hW5.size; replace hB := Nat.le_trans hB hW5.size; clear hT hU hP hW5 hOT))
  go_ret2
  exact ⟨rfl, _, hM, hW⟩
set_option maxHeartbeats 4000000 in
theorem walk_ok (r : Rg) (hr0 : r.Ok) (hc : chkR r = true) (hd : Int) {w : World} {B b p c : Nat} {f : Nat → Nat} {O : Nat → Prop} (h : RamB w B b p f c O) (hA : AreasAt w) (hG : 0 < B) (l : List (Nat → Nat)) (hf : followV p f r r.sz.toNat hd = some l) (ho : oddL p 0 false l = false) : Calls Tryd.prog 29 #[.agg r.cells, .pointer (some ⟨b, 0, none⟩), .int .i64 hd] w fun e w' => ∃ O' v, e = .returned (.tuple #[v, .nilIface]) ∧ RamB w' B b p f c O' ∧ Went B O O' w w' ∧ w'.ownsRow w.heap.size 104 3 v l.length (segL (l.map sgOf)) ∧ ∀ g, v.ownBlock = some g → ¬ O' g := by
  have hB0 := h.base
  have hGw : 0 < w.heap.size := Nat.lt_of_lt_of_le hG hB0
  have hA0 := hA
  clear hA
  have HC : Hid (∀ W, Calls Tryd.prog 42 #[.agg r.cells, .pointer (some ⟨b, 0, none⟩)] W fun e w' => e = .returned .nilIface ∧ Below W.heap.size W w') := hide (fun W => by have := rcheckw_any r hr0 b W; rw [hc] at this; exact this)
  obtain ⟨kz, hkz, _, hkz1⟩ := chkR_sz hc
  obtain ⟨hlk, hlp⟩ := follow_len _ _ _ hf
  have hll : l.length ≤ 256 := by omega
  have hww := follow_words h.small _ _ _ hf
  have HF : Hid (∀ W O1, RamB W B b p f c O1 → AreasAt W → Calls Tryd.prog 45 #[.agg r.cells, .pointer (some ⟨b, 0, none⟩), .int .i64 hd] W fun e w' => ∃ O' v, e = .returned (.tuple #[v, .nilIface]) ∧ RamB w' B b p f c O' ∧ Went B O1 O' W w' ∧ w'.ownsRow W.heap.size 125 4 v l.length (dscL l) ∧ ∀ g, v.ownBlock = some g → ¬ O' g) := hide (fun W O1 hM hA => (follow_any r hr0 hc hd hM hA hG).mono (by
    rintro e w' ⟨O', a1, a2, ⟨a3, _⟩ | ⟨l', v, a3, a4, a5, a6⟩⟩
    · rw [hf] at a3; cases a3
    · rw [hf] at a3; cases a3; exact ⟨O', v, a4, a1, a2, a5, a6⟩))
  have HO : Hid (∀ W NX, W.heap.size = NX → Calls Tryd.prog 47 #[.pointer (some ⟨b, 0, none⟩)] W fun e w' => e = .returned (.func (.func 61) #[] #[.pointer (some ⟨NX + 1, 0, none⟩), .pointer (some ⟨NX + 1 + 1, 0, none⟩), .pointer (some ⟨NX, 0, none⟩)]) ∧
    RowAt w' (NX + 1) #[.int .u64 0] 133 ∧ RowAt w' (NX + 1 + 1) #[.bool false] 4 ∧ RowAt w' NX #[.pointer (some ⟨b, 0, none⟩)] 26 ∧ Below NX W w' ∧ w'.heap.size = NX + 1 + 1 + 1) := hide (fun W NX e => by subst e; exact oio_any b W)
  have HCN : Hid (∀ W O1 cap gb cur NX, RamB W B b p f c O1 → AreasAt W → RowAt W (NX + 1) #[.int .u64 0] 133 → RowAt W (NX + 1 + 1) #[.bool false] 4 → RowAt W NX #[.pointer (some ⟨b, 0, none⟩)] 26 → RowAt W gb cur 125 → cur.toList.take (l.length * 4) = dscL l → gb < NX → B ≤ NX → ¬ O1 (NX + 1) → ¬ O1 (NX + 1 + 1) →
      Calls Tryd.prog 46 #[.slice (some ⟨gb, 0, none⟩) l.length cap, .func (.func 61) #[] #[.pointer (some ⟨NX + 1, 0, none⟩), .pointer (some ⟨NX + 1 + 1, 0, none⟩), .pointer (some ⟨NX, 0, none⟩)]] W fun e w' => e = .returned (.bool (oddL p 0 false l)) ∧ Went B (Two (NX + 1) (NX + 1 + 1)) (Two (NX + 1) (NX + 1 + 1)) W w') :=
    hide (fun W O1 cap gb cur NX hM hA hT hU hP hL ht hg hBN n1 n2 => con_odd l hll hww hM hA hG hT hU hP (by omega) (by omega) (by omega) (by omega) (by omega) n1 n2 hL ht (by omega) (by omega))
  rw [ho] at HCN
  have HNP := hide hlp
  have HWW := hide hww
  obtain ⟨n, hn⟩ : ∃ n, l.length = n := ⟨_, rfl⟩
  have HN := hide hn
  rw [hn] at HF HCN hll hlp HNP ⊢
  clear hc hr0 hf ho hww hkz hn hlk
  go_enter Tryd.func29, Tryd.ntmps29
  go_wp2_with (first | ((with_reducible refine bx_rp w.heap.size r ?_ ?_ ?_); exact rfl; exact rfl; intro W hr hb hz; have hM := h.bl hb; have hW := Went.of (O := O) hb hB0; have hA := hA0.bl hb; have hF := h.far 1; have hS : w.heap.size + 1 ≤ W.heap.size := Nat.le_of_eq hz.out.symm; have hB : B ≤ W.heap.size := Nat.le_trans hB0 hb.size; clear hb hz) | ((with_reducible refine ld_rp w.heap.size _ hr ?_ ?_ ?_); exact rfl; exact rfl) | (go_at_call 42; (with_reducible refine (HC.out _).mono ?_); rintro e W ⟨rfl, hbc⟩; replace hM := hM.bl hbc; replace hW := hW.bl hbc hB; replace hA := hA.bl hbc; replace hB := Nat.le_trans hB hbc.size; replace hS := Nat.le_trans hS hbc.size; replace hr := hr.bl hbc) | (go_at_call 45; (with_reducible refine (HF.out _ _ hM hA).mono ?_); rintro e W2 ⟨O2, v2, rfl, hM2, hW2, hL, hLn⟩; have hBL := hS; replace hr := hW2.row hr (hF.at 0 (by omega)); replace hA := hA.wentR hG hW2; replace hF := hF.went hW2 hS; replace hS := Nat.le_trans hS hW2.size; replace hW := hW.trans hW2; replace hB := Nat.le_trans hB hW2.size; replace hM := hM2; clear hM2 hW2; obtain ⟨gb, cap, cur, rfl, hc1, hc2, hgb, hLr, hcs, htk⟩ := own_row hL HNP.out; have hLn := hLn gb rfl; obtain ⟨NX, hNX0⟩ : ∃ n, W2.heap.size = n := ⟨_, rfl⟩; have hNX := hide hNX0; have hN1 : w.heap.size + 1 ≤ NX := hNX0 ▸ hS; have hN2 : B ≤ NX := hNX0 ▸ hB; have hN3 : gb < NX := hNX0 ▸ hLr.lt; have hN4 : w.heap.size + 1 ≤ gb := Nat.le_trans hBL hgb; have hn1 : ¬ O2 (NX + 1) := (fun e => absurd (hM.lt _ e) (by omega)); have hn2 : ¬ O2 (NX + 1 + 1) := (fun e => absurd (hM.lt _ e) (by omega)); have HTK := hide htk; clear hNX0 htk hcs hL hgb hBL) | (go_at_call 47; (with_reducible refine (HO.out _ NX hNX.out).mono ?_); rintro e W4 ⟨rfl, hT, hU, hP, hb', hsz⟩; have hbc := hNX.out.symm ▸ hb'; replace hM := hM.bl hbc; replace hW := hW.bl hbc hB; replace hA := hA.bl hbc; replace hB := Nat.le_trans hB hbc.size; replace hS := Nat.le_trans hS hbc.size; replace hr := hr.bl hbc; replace hLr := hLr.bl hbc; clear hbc hb' hsz) | (go_at_call 46; (with_reducible refine (HCN.out _ _ _ _ _ _ hM hA hT hU hP hLr HTK.out hN3 hN2 hn1 hn2).mono ?_); rintro e W5 ⟨rfl, hW5⟩; have hOT : ∀ x, O2 x → ¬ Two (NX + 1) (NX + 1 + 1) x := (fun x hx e => by rcases e with rfl | rfl; exact hn1 hx; exact hn2 hx); replace hM := hM.beside hW5 hOT; replace hA := hA.wentR hG hW5; replace hr := hW5.row hr (fun e => by rcases e with e | e <;> omega); replace hLr := hW5.row hLr (fun e => by rcases e with e | e <;> omega); replace hW := hW.two hW5 (by omega) (by omega); have hSx : NX < W5.heap.size := Nat.lt_of_lt_of_le (Nat.lt_of_lt_of_le (Nat.lt_succ_self NX) (Nat.le_of_lt hT.lt)) hW5.size; replace hS := Nat.le_trans hS hW5.size; replace hB := Nat.le_trans hB hW5.size; clear hT hU hP hW5 hOT; obtain ⟨NO, hNO0⟩ : ∃ n, W5.heap.size = n := ⟨_, rfl⟩; have hNO := hide hNO0; have hO1 : NX < NO := hNO0 ▸ hSx; clear hNO0 hSx) | ((with_reducible refine mk_s n (by omega) NO ?_ ?_ ?_); exact hNO.out; exact rfl; intro W oc hoR hos hb' hz; have hbc := hNO.out ▸ hb'; have hoO : ¬ O2 NO := (fun e => absurd (hM.lt _ e) (by have := hNO.out; omega)); replace hM := hM.bl hbc; replace hW := hW.bl hbc hB; replace hA := hA.bl hbc; replace hB := Nat.le_trans hB hbc.size; replace hS := Nat.le_trans hS hbc.size; replace hr := hr.bl hbc; replace hLr := hLr.bl hbc; clear hbc hb' hz))
  go_loopw [40] (fun iv wr => ∃ (k : Nat) (oc : Array Value), k ≤ n ∧ iv = .int .i64 (k : Nat) ∧ RowAt wr NO oc 104 ∧ oc.size = n * 3 ∧ (∀ (j : Nat) (u : Value), (segL ((l.take k).map sgOf))[j]? = some u → oc[j]? = some u) ∧ RamB wr B b p f c O2 ∧ Went B O O2 w wr ∧ RowAt wr gb cur 125 ∧ NO < wr.heap.size ∧ B ≤ wr.heap.size) (fun iv _ => n - (intOf iv).toNat)
  case atStart => exact ⟨0, oc, Nat.zero_le _, rfl, hoR, hos, fun j u hj => by simp [segL] at hj, hM, hW, hLr, hoR.lt, hB⟩
  case round =>
    clear hoR hos hM hW hLr hB hA hr hF hS hNX hNO
    obtain ⟨k, oc, hk, rfl, hoR, hos, hoc, hM, hW, hLr, hS, hB⟩ := hrel
    have HOC := hide hoc
    clear hoc
    by_cases hlt : k < n
    · obtain ⟨d, hd'⟩ : ∃ d, l[k]? = some d := ⟨_, List.getElem?_eq_getElem (by rw [HN.out]; exact hlt)⟩
      have hmid := mid_d HTK.out hd'
      have htl : (l.take k).length = k := by rw [List.length_take, HN.out]; omega
      have htk1 : (l.take (k + 1)).map sgOf = (l.take k).map sgOf ++ [sgOf d] := by rw [List.take_add_one, hd']; simp
      have hml : ((l.take k).map sgOf).length = k := by rw [List.length_map, htl]
      have HP3 := hide (seg_put (g := sgOf d) hos (by rw [hml]; exact hlt) HOC.out)
      rw [hml, ← htk1] at HP3
      have hg := HWW.out d (List.mem_of_getElem? hd')
      have hg2 := hg 2
      have HHS : Hid (∀ W, Calls Tryd.prog 48 #[.agg (dscV d), .int .u32 2] W fun e w' => e = .returned (.bool (hasD d 2)) ∧ Below W.heap.size W w') := hide (fun W => hasd_any d (hg 3) 2 (by decide) W)
      obtain ⟨ND, hND0⟩ : ∃ x, wr.heap.size = x := ⟨_, rfl⟩
      have hND := hide hND0
      have hd1 : NO < ND := hND0 ▸ hS
      have hd2 : B ≤ ND := hND0 ▸ hB
      have hdO : ¬ O2 ND := fun e => absurd (hM.lt _ e) (by omega)
      have hlt' : (k : Int) < (n : Int) := by omega
      have ecv : Hid (IntKind.i64.wrap ((d 2 : Nat) : Int) = ((d 2 : Nat) : Int)) := hide (i64_in _ (by omega) (by omega))
      clear hND0 hd' htl htk1 hml hg
      go_wp2_with (first | ((with_reducible refine ld_dm gb (k * 4) d cur hLr hmid ?_ ?_); exact rfl) | ((with_reducible refine al_dp ND ?_ ?_); exact hND.out; intro W hdr hb' hz; have hbc := hND.out ▸ hb'; replace hM := hM.bl hbc; replace hW := hW.bl hbc hB; replace hLr := hLr.bl hbc; replace hoR := hoR.bl hbc; replace hB := Nat.le_trans hB hbc.size; replace hS := Nat.le_trans hS hbc.size; clear hb' hbc hz) | ((with_reducible refine st_dp ND _ d hdr ?_ ?_ ?_); exact rfl; exact rfl; intro W hnew ho; replace hM := hM.only ho hdO; replace hW := hW.only ho (by omega) (by omega); replace hLr := hLr.only ho (by omega); replace hoR := hoR.only ho (by omega); replace hS := (show NO < W.heap.size by rw [ho.size]; exact hS); replace hB := (show B ≤ W.heap.size by rw [ho.size]; exact hB); replace hdr := hnew; clear hnew ho))
      refine wp_region_held_drew (S := (fun V => RowAt V ND (dscV d) 125)) (by kernel_rfl) ?_ (fun hHeld => ?_)
      · exact hdr.dr
      replace hM := hM.dr
      replace hW := hW.dr
      replace hLr := hLr.dr
      replace hoR := hoR.dr
      replace hS : NO < (World.drew _).heap.size := hS
      replace hB : B ≤ (World.drew _).heap.size := hB
      generalize World.drew _ = V at hHeld hM hW hLr hoR hS hB ⊢
      clear hdr
      refine wpAnyH_take (i := 0) (oi := ?oi1) (v := .slice (some ⟨NO, 0, none⟩) n n) ?hi1 (by kernel_rfl) (by kernel_rfl) (by kernel_rfl) ?hQ1 ?hy1 (by assumption) ?rest1
      case hi1 => (simp only [List.getElem?_toArray, List.getElem?_cons_zero]; rfl)
      case hQ1 => exact fun _ _ _ h => h
      case hy1 => exact Or.inl ⟨by rfl, by (intro w hSw; (try dsimp only at hSw); go_simp )⟩
      simp only [Act.put, List.setIfInBounds_toArray, List.set_cons_zero, List.set_cons_succ]
      refine wpAnyH_take (i := 1) (oi := ?oi2) (v := .int .i64 (k : Nat)) ?hi2 (by kernel_rfl) (by kernel_rfl) (by kernel_rfl) ?hQ2 ?hy2 (by assumption) ?rest2
      case hi2 => (simp only [List.getElem?_toArray, List.getElem?_cons_zero, List.getElem?_cons_succ]; rfl)
      case hQ2 => exact fun _ _ _ h => h
      case hy2 => exact Or.inl ⟨by rfl, by (intro w hSw; (try dsimp only at hSw); go_simp )⟩
      simp only [Act.put, List.setIfInBounds_toArray, List.set_cons_zero, List.set_cons_succ]
      refine wpAnyH_take (i := 2) (oi := ?oi3) (v := .pointer (some ⟨ND, 0, none⟩)) ?hi3 (by kernel_rfl) (by kernel_rfl) (by kernel_rfl) ?hQ3 ?hy3 (by assumption) ?rest3
      case hi3 => (simp only [List.getElem?_toArray, List.getElem?_cons_zero, List.getElem?_cons_succ]; rfl)
      case hQ3 => exact fun _ _ _ h => h
      case hy3 => exact Or.inl ⟨by rfl, by (intro w hSw; (try dsimp only at hSw); go_simp )⟩
      simp only [Act.put, List.setIfInBounds_toArray, List.set_cons_zero, List.set_cons_succ]
      refine wpAnyH_take (i := 3) (oi := ?oi4) (v := .int .u32 (d 0 : Nat)) ?hi4 (by kernel_rfl) (by kernel_rfl) (by kernel_rfl) ?hQ4 ?hy4 (by assumption) ?rest4
      case hi4 => (simp only [List.getElem?_toArray, List.getElem?_cons_zero, List.getElem?_cons_succ]; rfl)
      case hQ4 => exact fun _ _ _ h => h
      case hy4 => exact y_dc ND 0 d (by decide) _ (fun V hV => hV) rfl
      simp only [Act.put, List.setIfInBounds_toArray, List.set_cons_zero, List.set_cons_succ]
      refine wpAnyH_take (i := 4) (oi := ?oi5) (v := .pointer (some ⟨ND, 2, none⟩)) ?hi5 (by kernel_rfl) (by kernel_rfl) (by kernel_rfl) ?hQ5 ?hy5 (by assumption) ?rest5
      case hi5 => (simp only [List.getElem?_toArray, List.getElem?_cons_zero, List.getElem?_cons_succ]; rfl)
      case hQ5 => exact fun _ _ _ h => h
      case hy5 => exact Or.inl ⟨by rfl, by (intro w hSw; (try dsimp only at hSw); go_simp )⟩
      simp only [Act.put, List.setIfInBounds_toArray, List.set_cons_zero, List.set_cons_succ]
      refine wpAnyH_take (i := 5) (oi := ?oi6) (v := .int .u32 (d 2 : Nat)) ?hi6 (by kernel_rfl) (by kernel_rfl) (by kernel_rfl) ?hQ6 ?hy6 (by assumption) ?rest6
      case hi6 => (simp only [List.getElem?_toArray, List.getElem?_cons_zero, List.getElem?_cons_succ]; rfl)
      case hQ6 => exact fun _ _ _ h => h
      case hy6 => exact y_dc ND 2 d (by decide) _ (fun V hV => hV) rfl
      simp only [Act.put, List.setIfInBounds_toArray, List.set_cons_zero, List.set_cons_succ]
      refine wpAnyH_take (i := 6) (oi := ?oi7) (v := .int .i64 (d 2 : Nat)) ?hi7 (by kernel_rfl) (by kernel_rfl) (by kernel_rfl) ?hQ7 ?hy7 (by assumption) ?rest7
      case hi7 => (simp only [List.getElem?_toArray, List.getElem?_cons_zero, List.getElem?_cons_succ]; rfl)
      case hQ7 => exact fun _ _ _ h => h
      case hy7 => exact Or.inl ⟨by rfl, by (intro w hSw; (try dsimp only at hSw); go_simp ; exact ecv.out)⟩
      simp only [Act.put, List.setIfInBounds_toArray, List.set_cons_zero, List.set_cons_succ]
      refine wpAnyH_take (i := 7) (oi := ?oi8) (v := .agg (dscV d)) ?hi8 (by kernel_rfl) (by kernel_rfl) (by kernel_rfl) ?hQ8 ?hy8 (by assumption) ?rest8
      case hi8 => (simp only [List.getElem?_toArray, List.getElem?_cons_zero, List.getElem?_cons_succ]; rfl)
      case hQ8 => exact fun _ _ _ h => h
      case hy8 => exact y_dp ND d (fun V hV => hV) rfl rfl
      simp only [Act.put, List.setIfInBounds_toArray, List.set_cons_zero, List.set_cons_succ]
      refine wpAnyH_ready (rs := [8]) (by kernel_rfl) (by simp) ?_
      refine AllReadyH.cons (o := ?oi9) ?hi9 (fun K hK => ?_) AllReadyH.nil
      case hi9 => (simp only [List.getElem?_toArray, List.getElem?_cons_zero, List.getElem?_cons_succ]; rfl)
      rw [if_pos (by rfl)]
      go_simp
      (with_reducible refine (HHS.out _).mono ?_)
      rintro e V2 ⟨rfl, hbc⟩
      have hH2 := hide (hHeld.bl hbc)
      replace hM := hM.bl hbc
      replace hW := hW.bl hbc hB
      replace hLr := hLr.bl hbc
      replace hoR := hoR.bl hbc
      replace hB := Nat.le_trans hB hbc.size
      replace hS := Nat.lt_of_lt_of_le hS hbc.size
      clear hHeld hbc
      go_simp
      refine hK.out _ _ ?_ (fun hHeld => ?_)
      · exact hH2.out
      clear hK K
      clear hH2
      refine wpAnyH_take (i := 9) (oi := ?oi10) (v := .agg (sgOf d).cells) ?hi10 (by kernel_rfl) (by kernel_rfl) (by kernel_rfl) ?hQ10 ?hy10 (by assumption) ?rest10
      case hi10 => (simp only [List.getElem?_toArray, List.getElem?_cons_zero, List.getElem?_cons_succ]; rfl)
      case hQ10 => exact fun _ _ _ h => h
      case hy10 => exact Or.inl ⟨by rfl, by (intro w hSw; (try dsimp only at hSw); go_simp ; rfl)⟩
      simp only [Act.put, List.setIfInBounds_toArray, List.set_cons_zero, List.set_cons_succ]
      refine wpAnyH_take (i := 10) (oi := ?oi11) (v := .pointer (some ⟨NO, k * 3, none⟩)) ?hi11 (by kernel_rfl) (by kernel_rfl) (by kernel_rfl) ?hQ11 ?hy11 (by assumption) ?rest11
      case hi11 => (simp only [List.getElem?_toArray, List.getElem?_cons_zero, List.getElem?_cons_succ]; rfl)
      case hQ11 => exact fun _ _ _ h => h
      case hy11 => exact Or.inl ⟨by rfl, by (intro w hSw; (try dsimp only at hSw); go_simp )⟩
      simp only [Act.put, List.setIfInBounds_toArray, List.set_cons_zero, List.set_cons_succ]
      refine wpAnyH_ready (rs := [11]) (by kernel_rfl) (by simp) ?_
      refine AllReadyH.cons (o := ?oi12) ?hi12 (fun K hK => ?_) AllReadyH.nil
      case hi12 => (simp only [List.getElem?_toArray, List.getElem?_cons_zero, List.getElem?_cons_succ]; rfl)
      rw [if_pos (by rfl)]
      (with_reducible refine s_sm NO (k * 3) (sgOf d) oc _ hoR (by omega) ?_ ?_ ?_)
      · exact rfl
      · exact rfl
      intro V hnew ho
      have hH2 := hide (hHeld.only ho (by omega))
      replace hM := hM.only ho hoO
      replace hW := hW.only ho (by omega) (by omega)
      replace hLr := hLr.only ho (by omega)
      replace hS := (show NO < V.heap.size by rw [ho.size]; exact hS)
      replace hB := (show B ≤ V.heap.size by rw [ho.size]; exact hB)
      replace hoR := hnew
      clear hHeld hnew ho
      refine hK.out _ _ ?_ (fun hHeld => ?_)
      · exact hH2.out
      clear hK K
      clear hH2
      refine wpAnyH_done (by kernel_rfl) ?_ _
      clear hHeld
      go_wp2_with (fail)
      go_roundw
      case rel => exact ⟨k + 1, _, hlt, by go_num, hoR, HP3.out.1, HP3.out.2, hM, hW, hLr, hS, hB⟩
      case measure => simp [intOf]; omega
    · obtain rfl : k = n := by omega
      go_wp2
      go_ret2
      have ht : l.take k = l := by rw [← HN.out, List.take_length]
      rw [ht] at HOC
      exact ⟨O2, _, rfl, hM, hW, own_of_segs hoR (by omega) (by rw [List.length_map]; exact HN.out) hos (by unfold maxLen; omega) HOC.out, fun g e => by cases e; exact hoO⟩
end Go.Proofs.YtbggkoahofnnjaaDoor
