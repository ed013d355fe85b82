/-
  What nic's withHead answers.
-/
import Derived.Test.YtbggkoahofnnjaaDoorJK26
import Derived.Test.YtbggkoahofnnjaaDoorJK25
namespace Go.Proofs.YtbggkoahofnnjaaDoor
open Go.RowKit
set_option linter.unusedVariables false
set_option linter.unusedSimpArgs false

structure FrsAt (w : World) (B : Nat) (O : Nat → Prop) (ov : Value) (l : List (List Nat × Value)) : Prop where
  row : w.ownsRow B 22 1 ov l.length (l.map (·.2))
  dat : ∀ x ∈ l, FrAt w B O x.1 x.2
  far : ∀ g, ov.ownBlock = some g → ¬ O g
theorem FrAt.one {w : World} {B : Nat} {O : Nat → Prop} {k : List Nat} {dv : Value} (h : FrAt w B O k dv) : dv.oneCell' = true := by
  obtain ⟨_, _, _, rfl, _⟩ := h.ex; rfl
theorem FrAt.keep {w W : World} {B : Nat} {O O' : Nat → Prop} {k : List Nat} {dv : Value} (h : FrAt w B O k dv) (hk : ∀ g cs, RowAt w g cs 5 → ¬ O g → W.heap[g]? = w.heap[g]? ∧ ¬ O' g) : FrAt W B O' k dv := by
  obtain ⟨g, cap, all, e1, e0, e2, e3, e4, e5, e6⟩ := h.ex
  obtain ⟨g', cap', cur, hve, _, _, _, hr, _, _⟩ := own_row e2 (by omega)
  injection hve with q1 q2 q3
  cases q1
  obtain ⟨k1, k2⟩ := hk g cur hr e5
  exact ⟨g, cap, all, e1, e0, own_at e2 (fun x hx => by cases hx; exact k1), e3, e4, k2, e6⟩
theorem FrAt.lower {w : World} {B B' : Nat} {O : Nat → Prop} {k : List Nat} {dv : Value} (h : FrAt w B O k dv) (hB : B' ≤ B) : FrAt w B' O k dv := by
  obtain ⟨g, cap, all, e1, e0, e2, e3⟩ := h.ex
  exact ⟨g, cap, all, e1, e0, own_lower2 e2 hB, e3⟩
theorem FrAt.bl {w W : World} {B : Nat} {O : Nat → Prop} {k : List Nat} {dv : Value} (h : FrAt w B O k dv) (hb : Below w.heap.size w W) : FrAt W B O k dv := h.keep (fun g cs hr hn => ⟨hb.block g hr.lt, hn⟩)
theorem FrsAt.rowT {w : World} {B : Nat} {O : Nat → Prop} {ov : Value} {l : List (List Nat × Value)} (h : FrsAt w B O ov l) : ∀ g, ov.ownBlock = some g → ∃ cs, RowAt w g cs 22 := fun g hg => by
  rcases h.row.2 with ⟨h1, _⟩ | ⟨g', cap, cur, h1, _, h3, _⟩
  · rw [h1] at hg; cases hg
  · rw [h1] at hg; cases hg; exact ⟨cur, h3⟩
theorem FrsAt.keep {w W : World} {B : Nat} {O O' : Nat → Prop} {ov : Value} {l : List (List Nat × Value)} (h : FrsAt w B O ov l) (hk : ∀ g cs t, RowAt w g cs t → (t = 5 ∨ t = 22) → ¬ O g → W.heap[g]? = w.heap[g]? ∧ ¬ O' g) : FrsAt W B O' ov l := by
  refine ⟨own_at h.row (fun g hg => ?_), fun x hx => (h.dat x hx).keep (fun g cs hr hn => hk g cs _ hr (.inl rfl) hn), fun g hg => ?_⟩
  · obtain ⟨cs, hr⟩ := h.rowT g hg
    exact (hk g cs _ hr (.inr rfl) (h.far g hg)).1
  · obtain ⟨cs, hr⟩ := h.rowT g hg
    exact (hk g cs _ hr (.inr rfl) (h.far g hg)).2
theorem FrsAt.bl {w W : World} {B : Nat} {O : Nat → Prop} {ov : Value} {l : List (List Nat × Value)} (h : FrsAt w B O ov l) (hb : Below w.heap.size w W) : FrsAt W B O ov l :=
  h.keep (fun g cs t hr _ hn => ⟨hb.block g hr.lt, hn⟩)
theorem FrsAt.wentX {w W : World} {B Bm : Nat} {O O' : Nat → Prop} {ov : Value} {l : List (List Nat × Value)} (h : FrsAt w B O ov l) (hw : Went Bm O O' w W) : FrsAt W B O' ov l :=
  h.keep (fun g cs t hr _ hn => ⟨hw.other g hr.lt hn, hw.no hr.lt hn⟩)
theorem FrsAt.only {w W : World} {B g : Nat} {O : Nat → Prop} {ov : Value} {l : List (List Nat × Value)} {cs : Array Value} {t : TypeId} (h : FrsAt w B O ov l) (ho : Only g w W) (hr : RowAt w g cs t) (h1 : t ≠ 5) (h2 : t ≠ 22) : FrsAt W B O ov l :=
  h.keep (fun x cx tx hx ht hn => ⟨ho.row x (fun e => by
    subst e
    have := hr.symm.trans hx
    simp at this
    rcases ht with q | q
    · exact h1 (this.2.trans q)
    · exact h2 (this.2.trans q)), hn⟩)
theorem FrsAt.lower {w : World} {B B' : Nat} {O : Nat → Prop} {ov : Value} {l : List (List Nat × Value)} (h : FrsAt w B O ov l) (hB : B' ≤ B) : FrsAt w B' O ov l :=
  ⟨own_lower2 h.row hB, fun x hx => (h.dat x hx).lower hB, h.far⟩
theorem FrsAt.nil (w : World) (B : Nat) (O : Nat → Prop) : FrsAt w B O (.slice none 0 0) [] :=
  ⟨World.ownsRow_nil _ _ _ _, (fun x hx => by cases hx), (fun g hg => by cases hg)⟩
theorem FrsAt.app {w W : World} {B : Nat} {O : Nat → Prop} {ov ov' dv : Value} {l : List (List Nat × Value)} {fr : List Nat} (h : FrsAt w B O ov l) (hr : W.ownsRow B 22 1 ov' (l.length + 1) ((l ++ [(fr, dv)]).map (·.2))) (hg : w.grownBy W ov.ownBlock) (hbk : ov'.ownBlock = ov.ownBlock ∨ ov'.ownBlock = some w.heap.size) (hO : ∀ x, O x → x < w.heap.size) (hd : FrAt w B O fr dv) : FrsAt W B O ov' (l ++ [(fr, dv)]) := by
  have hkeep : ∀ g cs, RowAt w g cs 5 → W.heap[g]? = w.heap[g]? := fun g cs hr => hg.block g hr.lt (fun k => by
    have := own_ty h.row k.symm hr
    exact absurd this (by decide))
  refine ⟨by rw [List.length_append]; exact hr, fun x hx => ?_, fun g e => ?_⟩
  · rcases List.mem_append.1 hx with h1 | h1
    · exact (h.dat x h1).keep (fun g cs hr hn => ⟨hkeep g cs hr, hn⟩)
    · rw [List.mem_singleton.1 h1]; exact hd.keep (fun g cs hr hn => ⟨hkeep g cs hr, hn⟩)
  · rcases hbk with k | k
    · exact h.far g (k ▸ e)
    · rw [k] at e; cases e; exact fun k => absurd (hO _ k) (by omega)
theorem info_sb : ∃ i, Tryd.prog.info? 22 = some i ∧ i.zero = some (.slice none 0 0) ∧ i.size = 1 ∧ i.bytes = 24 := info_parts (P := Tryd.prog) (e := 22) (z := .slice none 0 0) (size := 1) (bytes := 24) (by kernel_rfl)
variable {ops : Array Oper} {rest : List Oper} {dst : Option Tmp} {ty : TypeId} {pos : String} {after : Array Edge} {a : Act} {w : World} {Q : Exit → Act → World → Prop} {x y : Operand} {B : Nat} {O : Nat → Prop} {ov dv : Value} {l : List (List Nat × Value)} {fr : List Nat}
theorem bs_fr (N : Nat) (hN : w.heap.size = N) (da : Option Addr) (dn dc : Nat) (hx : a.eval x = .slice da dn dc)
    (k : ∀ W, RowAt W N #[.slice da dn dc] 22 → Below N w W → Hid (W.heap.size = N + 1) → wpList Tryd.prog ops Q rest (a.put dst (.slice (some ⟨N, 0, none⟩) 1 1)) W) :
    wpList Tryd.prog ops Q (⟨dst, .buildSlice 50 1 #[(0, x)], ty, pos, after, none⟩ :: rest) a w :=
  op_bsn 50 22 1 Tryd.underlying50 #[.slice da dn dc] N hN [(0, .slice da dn dc)] (by simp [hx]) ⟨by kernel_rfl⟩ k
theorem app_fr (h : FrsAt w B O ov l) (hd : FrAt w B O fr dv) (s : Nat) (hs : RowAt w s #[dv] 22) (hl : l.length ≤ 1000) (hB : B ≤ w.heap.size) (hO : ∀ x, O x → x < w.heap.size) (hx : a.eval x = ov) (hy : a.eval y = .slice (some ⟨s, 0, none⟩) 1 1)
    (k : ∀ W ov', FrsAt W B O ov' (l ++ [(fr, dv)]) → w.grownBy W ov.ownBlock → wpList Tryd.prog ops Q rest (a.put dst ov') W) :
    wpList Tryd.prog ops Q (⟨dst, .call { callee := .builtin .append, args := #[x, y], argTypes := #[50, 50] }, 50, pos, after, none⟩ :: rest) a w := by
  obtain ⟨i, h1, h2, h3, h4⟩ := info_sb
  refine op_appl 50 22 i _ 1 24 Tryd.underlying50 h1 h2 h3 h4 rfl (by decide) h.row ⟨s, 0, none⟩ 1 1 [dv] rfl ?_ (fun u hu => by rw [List.mem_singleton.1 hu]; exact hd.one) (by unfold maxLen; omega) (by omega) hB hx hy ?_
  · intro j u hu
    have hj0 : j < 1 := by have := (List.getElem?_eq_some_iff.1 hu).1; simpa using this
    (obtain rfl : j = 0 := by omega)
    rw [Addr.add_lit, Nat.zero_add, hs.cell 0]
    simpa using hu
  · intro W v' q1 q2 q3
    exact k W v' (h.app (by rw [List.map_append]; exact q1) q2 q3 hO hd) q2
end Go.Proofs.YtbggkoahofnnjaaDoor
namespace Go.Proofs.YtbggkoahofnnjaaDoor
open Go.RowKit
set_option linter.unusedVariables false
set_option linter.unusedSimpArgs false

variable {ops : Array Oper} {rest : List Oper} {dst : Option Tmp} {ty : TypeId} {pos : String} {after : Array Edge} {a : Act} {w : World} {Q : Exit → Act → World → Prop} {K : Act → World → Prop} {x y : Operand} {gd : Option (Nat × Bool)}
set_option maxRecDepth 20000 in
theorem mk_h (k0 : Nat) (hk : k0 ≤ 100000) (h12 : 12 ≤ k0) (N : Nat) (hN : w.heap.size = N) (hx : a.eval x = .int .i64 12) (hy : a.eval y = .int .i64 (k0 : Nat))
    (k : ∀ W, RowAt W N (madeCells #[.int .u8 0] k0) 5 → Below N w W → Hid (W.heap.size = N + 1) → wpList Tryd.prog ops Q rest (a.put dst (.slice (some ⟨N, 0, none⟩) 12 k0)) W) :
    wpList Tryd.prog ops Q (⟨dst, .makeSlice 22 x y, ty, pos, after, none⟩ :: rest) a w := by
  refine wpList_plain rfl fun K2 hK => ?_
  subst hN
  obtain ⟨i, h1, h2, h3, h4⟩ := info_b
  have hr := run_make (P := Tryd.prog) w 22 5 i _ Tryd.underlying22 h1 h2 .i64 .i64 12 (k0 : Int) (by decide) (by omega) (by rw [h4]; omega) (by omega)
  rw [Int.toNat_natCast, h3, Nat.mul_one] at hr
  have : (execOp a.eval ⟨dst, .makeSlice 22 x y, ty, pos, after, none⟩).run Tryd.prog w = .ok (.value (.slice (some ⟨w.heap.size, 0, none⟩) 12 k0)) (w.alloc (.cells (madeCells #[.int .u8 0] k0) 5)) := by
    unfold execOp
    simp only [hx, hy, Sem.run_bind, hr, Result.andThen_ok, Sem.run_pure]
    rfl
  unfold Oper.wp
  rw [this, Oper.upon_value]
  exact hK _ _ (k _ (RowAt.new w _ _ 5 rfl) (below_one w _) (hide (by simp)))
theorem st_h (b k0 : Nat) (h12 : 12 ≤ k0) (hr : RowAt w b (madeCells #[.int .u8 0] k0) 5) (hx : a.eval x = .pointer (some ⟨b, 10, none⟩)) (hy : a.eval y = .int .u8 1)
    (k : ∀ W, RowAt W b ((madeCells #[.int .u8 0] k0).setIfInBounds 10 (.int .u8 1)) 5 → Only b w W → wpList Tryd.prog ops Q rest (a.put dst undef) W) : wpList Tryd.prog ops Q (⟨dst, .store 5 x y, ty, pos, after, none⟩ :: rest) a w :=
  op_store_cell b 10 hx _ hy (madeCells #[.int .u8 0] k0) _ _ hr (by kernel_rfl) (by rw [size_madeCells]; omega) rfl rfl k
theorem head_take (M : Nat) : (((madeCells #[Value.int .u8 0] (M + 12)).setIfInBounds 10 (.int .u8 1)).toList.take 12) = byteV headL := by
  rw [Array.toList_setIfInBounds, toList_madeCells_one]
  rfl
theorem app_h (g M k0 fb fo bcap : Nat) (hk : k0 = M + 12) (hk1 : k0 ≤ 100000) (bl : List Nat) (hM : bl.length = M) (hr : RowAt w g ((madeCells #[.int .u8 0] k0).setIfInBounds 10 (.int .u8 1)) 5) (hfb : ∀ j (h : j < bl.length), w.cell? ⟨fb, fo + j, none⟩ = some (.int .u8 (bl[j] : Nat)))
    (hx : a.eval x = .slice (some ⟨g, 0, none⟩) 12 k0) (hy : a.eval y = .slice (some ⟨fb, fo, none⟩) M bcap)
    (k : ∀ W, W.ownsRow g 5 1 (.slice (some ⟨g, 0, none⟩) k0 k0) k0 (byteV (headL ++ bl)) → w.grownBy W (some g) → wpList Tryd.prog ops Q rest (a.put dst (.slice (some ⟨g, 0, none⟩) k0 k0)) W) :
    wpList Tryd.prog ops Q (⟨dst, .call { callee := .builtin .append, args := #[x, y], argTypes := #[22, 22] }, 22, pos, after, none⟩ :: rest) a w := by
  obtain ⟨i, h1, h2, h3, h4⟩ := info_b
  have hown : w.ownsRow g 5 1 (.slice (some ⟨g, 0, none⟩) 12 k0) 12 (byteV headL) := by
    refine ⟨rfl, .inr ⟨g, k0, _, rfl, Nat.le_refl _, hr, by omega, by unfold maxLen; omega, ?_, ?_⟩⟩
    · rw [Array.size_setIfInBounds, size_madeCells]; simp
    · subst hk; exact head_take M
  have h := op_appf (P := Tryd.prog) (ops := ops) (rest := rest) (dst := dst) (pos := pos) (after := after) (Q := Q) 22 5 i 1 Tryd.underlying22 h1 h3 hown ⟨fb, fo, none⟩ M bcap (byteV bl) (by rw [byteV, List.length_map, hM, Nat.mul_one]) (fun j u hu => ?_) (fun u hu => ?_) (by omega) hx hy
  · rw [show 12 + M = k0 by omega, ← byteV_append] at h
    exact h k
  · rw [byteV, List.getElem?_map] at hu
    have hj : j < bl.length := by
      rcases Nat.lt_or_ge j bl.length with q | q
      · exact q
      · rw [List.getElem?_eq_none q] at hu; cases hu
    rw [List.getElem?_eq_getElem hj] at hu
    rw [← hu, Addr.add_mid]
    exact hfb j hj
  · obtain ⟨z, _, rfl⟩ := List.mem_map.1 hu
    rfl
set_option maxRecDepth 20000 in
set_option maxHeartbeats 2000000 in
theorem whead_any (bl : List Nat) (h0 : 0 < bl.length) (hl : bl.length ≤ 1514) (bcap : Nat) (ba : Option Addr) (w : World) {B : Nat} (hB : B ≤ w.heap.size) (hy : BytesAt w B ba bl) (k0 : Nat) (hk : k0 = bl.length + 12) :
    Calls Tryd.prog 18 #[.slice ba bl.length bcap] w fun e w' => e = .returned (.slice (some ⟨w.heap.size, 0, none⟩) k0 k0) ∧ w'.ownsRow w.heap.size 5 1 (.slice (some ⟨w.heap.size, 0, none⟩) k0 k0) k0 (byteV (headL ++ bl)) ∧ Below w.heap.size w w' := by
  obtain ⟨fb, fo, rfl, hfb, hc⟩ := hy.lies h0
  have HC := hide hc
  obtain ⟨M, hM⟩ : ∃ M, bl.length = M := ⟨_, rfl⟩
  rw [hM] at h0 hl hk ⊢
  have e1 : Hid (IntKind.i64.wrap (12 + (M : Int)) = ((k0 : Nat) : Int)) := hide (by rw [IntKind.wrap_i64]; omega)
  have e2 : Hid (wrap64 (12 + (M : Int)) = ((k0 : Nat) : Int)) := hide (by unfold wrap64; omega)
  have e3 : Hid (12 + (M : Int) = ((k0 : Nat) : Int)) := hide (by omega)
  have HM := hide hM
  have HK := hide hk
  have hk1 : k0 ≤ 100000 := by omega
  have hk2 : 12 ≤ k0 := by omega
  clear hc hM hy hk
  go_enter Tryd.func18, Tryd.ntmps18
  go_wp2_with (first | ((with_reducible refine mk_h k0 hk1 hk2 w.heap.size ?_ ?_ ?_ ?_); exact rfl; exact rfl; (first | exact congrArg (Value.int .i64) e1.out | exact congrArg (Value.int .i64) e2.out | exact congrArg (Value.int .i64) e3.out); intro W hg hb hz) | ((with_reducible refine st_h w.heap.size k0 hk2 hg ?_ ?_ ?_); exact rfl; exact rfl; intro W hnew ho; replace hb := ho.bel _ _ (by omega) hb; replace hg := hnew; clear hnew ho) | ((with_reducible refine app_h w.heap.size M k0 fb fo bcap HK.out hk1 bl HM.out hg (fun j hj => (hb.cell (p := ⟨fb, fo + j, none⟩) (Nat.lt_of_lt_of_le hfb hB)).trans (HC.out j hj)) ?_ ?_ ?_); exact rfl; exact rfl; intro W5 hY hg5))
  go_ret
  exact ⟨rfl, hY, grow_below hb hg5 hb.size (fun g e => by cases e; exact Nat.le_refl _)⟩
end Go.Proofs.YtbggkoahofnnjaaDoor
