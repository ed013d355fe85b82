/-
  What blk's number answers.
-/
import Derived.Test.YtaaiockiojejeaaGreatDoorJH28
import Derived.Test.YtaaiockiojejeaaGreatDoorJH5
import Derived.Deep.MidRow
import Derived.Test.YtaaiockiojejeaaGreatDoorJH29
import Derived.Test.YtaaiockiojejeaaGreatDoorJH22
import Derived.Test.YtaaiockiojejeaaGreatDoorJH11
import Derived.Deep.CutRange
namespace Go.Proofs.YtaaiockiojejeaaGreatDoor
open Go.RowKit Go.Shelf
set_option linter.unusedVariables false

attribute [local go_sem] Oper.semAt_some
abbrev SgO := { s : Sg // s.Ok }
abbrev PairS := Nat × SgO
def downS (g : Nat → SgO) (len : Nat) (k : Nat) : PairS := (len - 1 - k, g (len - 1 - k))
/-- Parts that lie one behind the other. -/
def SegAt (w : World) (b off : Nat) (len : Nat) (g : Nat → SgO) : Prop := ∀ j, j < len → ∀ i, i < 3 → w.cell? ⟨b, off + j * 3 + i, none⟩ = (g j).1.cells[i]?
theorem SegAt.bel {w W : World} {b off len n₀ : Nat} {g : Nat → SgO} (h : SegAt w b off len g) (hb : Below n₀ w W) (hl : b < n₀) : SegAt W b off len g := fun j hj i hi => (hb.cell (p := ⟨b, off + j * 3 + i, none⟩) hl).trans (h j hj i hi)
set_option maxRecDepth 100000 in
set_option maxHeartbeats 2000000 in
theorem backs1_in (F : Fence) (n : Nat) (hf : F.fn 147) (hro : F.round = none) (hn : 1 ≤ n) (l Bs n₀ b off len cap : Nat) (g : Nat → SgO) (hreach : len ≤ 1000000) (hb : b < n₀) (J Jx : List PairS → World → Prop)
    (hY : ∀ pre x W, J pre W → pre.length < len → YieldAt F (n - 1) Tryz.prog l #[.int .i64 (x.1 : Int), .agg x.2.1.cells] W fun e W' =>
      (e = .returned (.bool true) ∧ J (pre ++ [x]) W' ∧ KeepB n₀ Bs W W') ∨ (e = .returned (.bool false) ∧ Jx (pre ++ [x]) W'))
    (W : World) (hBs : W.cell? ⟨Bs, 0, none⟩ = some (.slice (some ⟨b, off, none⟩) len cap)) (hc : SegAt W b off len g) (h0 : J [] W) :
    CallsIn F n Tryz.prog 147 #[.func (.yield l) #[] #[], .pointer (some ⟨Bs, 0, none⟩)] W fun e W' => (∃ v, e = .returned v) ∧
      ((∃ ys, ys = upto (downS g len) len ∧ J ys W') ∨ (∃ pre, (∃ k, k ≤ len ∧ pre = upto (downS g len) k) ∧ Jx pre W')) := by
  refine callsIn_of_wp Tryz.func147 rfl hf ?_ hro
  simp only [Tryz.ntmps147, List.size_toArray, List.length_cons, List.length_nil, Nat.reduceAdd, Nat.reduceSub, Array.replicate_succ, Array.replicate_zero, List.push_toArray, List.append_toArray, List.nil_append, List.cons_append]
  gi_wp2
  gi_loopw [3] (fun i wr => ∃ k : Nat, k ≤ len ∧ i = .int .i64 ((len : Int) - 1 - k) ∧ J (upto (downS g len) k) wr ∧ KeepB n₀ Bs W wr)
    (fun i _ => (intOf i + 1).toNat)
  case atStart => exact ⟨0, Nat.zero_le _, by simp, h0, KeepB.refl _ _ _⟩
  case round =>
    obtain ⟨k, hk, rfl, hJs, hnx⟩ := hrel
    have hBs' : wr.cell? ⟨Bs, 0, none⟩ = some (.slice (some ⟨b, off, none⟩) len cap) := (cell_of_same hnx.2 0).trans hBs
    by_cases hlt : k < len
    · obtain ⟨m, hm⟩ : ∃ m, m = len - 1 - k := ⟨_, rfl⟩
      have hmi : (len : Int) - 1 - k = (m : Int) := by omega
      have hml : m < len := by omega
      have hcx := (hc.bel hnx.1 hb) m hml
      obtain ⟨sg, hsg⟩ : ∃ x, g m = x := ⟨_, rfl⟩
      rw [hsg] at hcx
      obtain ⟨⟨sa, sn, sw⟩, hok⟩ := sg
      have c0 : wr.cell? ⟨b, off + m * 3, none⟩ = some (.int .u32 (sa : Nat)) := hcx 0 (by decide)
      have c1 : wr.cell? ⟨b, off + m * 3 + 1, none⟩ = some (.int .i64 sn) := hcx 1 (by decide)
      have c2 : wr.cell? ⟨b, off + m * 3 + 2, none⟩ = some (.bool sw) := hcx 2 (by decide)
      obtain ⟨fn, tmps, assign, body, hy, hR⟩ := hY _ (m, g m) wr hJs (by rw [upto_length]; exact hlt)
      dsimp only at hy
      rw [hsg] at hy hR
      simp only [Sg.cells] at hy
      have HE : Hid ((m, g m) = downS g len k) := by show _ = _; unfold downS; rw [hm]
      rw [hmi]
      have HM : Hid (m = len - 1 - k) := hm
      have HI : Hid ((len : Int) - 1 - k = (m : Int)) := hmi
      rw [hsg] at HE
      clear hmi hm hcx hc hsg
      gi_wp2
      refine hR.mono ?_
      rintro e W3 (⟨rfl, hJ3, hk3⟩ | ⟨rfl, hJx3⟩)
      · gi_wp2
        go_roundw
        case rel => exact ⟨k + 1, by omega, by have := HM.out; go_num, by rw [upto_succ, ← HE.out]; exact hJ3, hnx.trans hk3⟩
        case measure => simp [intOf]
      · gi_wp2
        refine bodyPost_ret (results_none rfl _ _ _) rfl ?_
        exact ⟨⟨_, rfl⟩, .inr ⟨_, ⟨k + 1, by omega, by rw [upto_succ, ← HE.out]⟩, hJx3⟩⟩
    · obtain rfl : k = len := by omega
      gi_wp2
      go_end0
      exact ⟨⟨_, rfl⟩, .inl ⟨_, rfl, hJs⟩⟩
set_option maxHeartbeats 1000000 in
theorem backs_in (F : Fence) (n : Nat) (hf : F.fn 125) (hro : F.round = none) (a : Option Addr) (len cap : Nat) (w : World) :
    CallsIn F n Tryz.prog 125 #[.slice a len cap] w fun e w' => e = .returned (.func (.func 147) #[] #[.pointer (some ⟨w.heap.size, 0, none⟩)]) ∧ w' = w.alloc (.cells #[.slice a len cap] 100) := by
  refine callsIn_of_wp Tryz.func125 rfl hf ?_ hro
  simp only [Tryz.ntmps125, List.size_toArray, List.length_cons, List.length_nil, Nat.reduceAdd, Nat.reduceSub, Array.replicate_succ, Array.replicate_zero, List.push_toArray, List.append_toArray, List.nil_append, List.cons_append]
  gi_wp2
  go_ret
  exact ⟨rfl, rfl⟩
theorem backs_stops (F : Fence) (n : Nat) (hf : F.fn 147) (hro : F.round = none) (hn : 1 ≤ n) (Bs n₀ b off len cap : Nat) (g : Nat → SgO) (hreach : len ≤ 1000000) (hb : b < n₀) (w : World) (hBs : Bs < w.heap.size) (hn₀ : n₀ ≤ w.heap.size)
    (hc : w.cell? ⟨Bs, 0, none⟩ = some (.slice (some ⟨b, off, none⟩) len cap)) (hI : SegAt w b off len g) :
    SeqStopsK F n Tryz.prog 147 #[.pointer (some ⟨Bs, 0, none⟩)] (fun x : PairS => #[Value.int .i64 (x.1 : Int), Value.agg x.2.1.cells]) (KeepB n₀ Bs) (fun ys => ys = upto (downS g len) len)
      (fun pre => ∃ k, k ≤ len ∧ pre = upto (downS g len) k) len w := fun l J Jx W hW _ _ hY h0 => by
  have hc' := (hW.cell (p := ⟨Bs, 0, none⟩) hBs).trans hc
  exact backs1_in F n hf hro hn l Bs n₀ b off len cap g hreach hb J Jx hY W hc' (hI.bel hW (by omega)) h0
end Go.Proofs.YtaaiockiojejeaaGreatDoor
namespace Go.Proofs.YtaaiockiojejeaaGreatDoor
open Go.RowKit
set_option linter.unusedVariables false
set_option linter.unusedSimpArgs false

/-- The memory's blocks, and a list's own. -/
def Or1 (O : Nat → Prop) (v : Value) : Nat → Prop := fun x => O x ∨ v.ownBlock = some x
theorem Went.or {B : Nat} {O O' : Nat → Prop} {w W : World} (h : Went B O O' w W) (v : Value) : Went B (Or1 O v) (Or1 O' v) w W :=
  ⟨h.below, h.size, fun x hx hn => h.other x hx (fun e => hn (.inl e)), fun x hx e => e.elim (fun k => .inl (h.own x hx k)) .inr⟩
/-- .. behind one that began when the list was not there. -/
theorem Went.then1 {B : Nat} {O O1 O2 : Nat → Prop} {w W W' : World} {v v' : Value} (h : Went B O O1 w W) (k : Went B (Or1 O1 v) (Or1 O2 v') W W') (hv : ∀ g, v.ownBlock = some g → w.heap.size ≤ g) : Went B O O2 w W' :=
  ⟨h.below.trans k.below, Nat.le_trans h.size k.size, fun x hx hn => (k.other x (Nat.lt_of_lt_of_le hx h.size) (fun e => e.elim (fun q => hn (h.own x hx q)) (fun q => absurd (hv x q) (by omega)))).trans (h.other x hx hn),
   fun x hx e => by
    rcases k.own x (Nat.lt_of_lt_of_le hx h.size) (.inl e) with q | q
    · exact h.own x hx q
    · exact absurd (hv x q) (by omega)⟩
/-- What the disk is asked for, with its data. -/
structure AkAt (w : World) (B : Nat) (O : Nat → Prop) (k : Ak) (dv : Value) : Prop where
  ex : (k.da = [] ∧ dv = nilS) ∨ ∃ g cap all, dv = .slice (some ⟨g, 16, none⟩) (all.length - 16) (cap - 16) ∧ w.ownsRow B 5 1 (.slice (some ⟨g, 0, none⟩) all.length cap) all.length (byteV all) ∧ 16 < all.length ∧ k.da = all.drop 16 ∧ ¬ O g ∧ ∀ y ∈ all, y < 256
/-- A list of what the disk is asked for. -/
structure AsksAt (w : World) (B : Nat) (O : Nat → Prop) (av : Value) (l : List (Ak × Value)) : Prop where
  row : w.ownsRow B 81 5 av l.length (askL l)
  dat : ∀ x ∈ l, AkAt w B O x.1 x.2
  far : ∀ g, av.ownBlock = some g → ¬ O g
theorem AkAt.one {w : World} {B : Nat} {O : Nat → Prop} {k : Ak} {dv : Value} (h : AkAt w B O k dv) : dv.oneCell' = true := by
  rcases h.ex with ⟨_, rfl⟩ | ⟨_, _, _, rfl, _⟩ <;> rfl
theorem AkAt.keep {w W : World} {B : Nat} {O O' : Nat → Prop} {k : Ak} {dv : Value} (h : AkAt w B O k dv) (hk : ∀ g cs, RowAt w g cs 5 → ¬ O g → W.heap[g]? = w.heap[g]? ∧ ¬ O' g) : AkAt W B O' k dv := by
  rcases h.ex with h | ⟨g, cap, all, e1, e2, e3, e4, e5, e6⟩
  · exact ⟨.inl h⟩
  · obtain ⟨g', cap', cur, hve, _, _, _, hr, _, _⟩ := own_row e2 (by omega)
    injection hve with q1 q2 q3
    cases q1
    obtain ⟨k1, k2⟩ := hk g cur hr e5
    exact ⟨.inr ⟨g, cap, all, e1, own_at e2 (fun x hx => by cases hx; exact k1), e3, e4, k2, e6⟩⟩
theorem AsksAt.keep {w W : World} {B : Nat} {O O' : Nat → Prop} {av : Value} {l : List (Ak × Value)} (h : AsksAt w B O av l) (hk : ∀ g cs t, RowAt w g cs t → (t = 5 ∨ t = 81) → ¬ O g → W.heap[g]? = w.heap[g]? ∧ ¬ O' g) : AsksAt W B O' av l := by
  have hrow : ∀ g, av.ownBlock = some g → ∃ cs, RowAt w g cs 81 := fun g hg => by
    rcases h.row.2 with ⟨h1, _⟩ | ⟨g', cap, cur, h1, _, h3, _⟩
    · rw [h1] at hg; cases hg
    · rw [h1] at hg; cases hg; exact ⟨cur, h3⟩
  refine ⟨own_at h.row (fun g hg => ?_), fun x hx => (h.dat x hx).keep (fun g cs hr hn => hk g cs _ hr (.inl rfl) hn), fun g hg => ?_⟩
  · obtain ⟨cs, hr⟩ := hrow g hg
    exact (hk g cs _ hr (.inr rfl) (h.far g hg)).1
  · obtain ⟨cs, hr⟩ := hrow g hg
    exact (hk g cs _ hr (.inr rfl) (h.far g hg)).2
theorem AsksAt.bl {w W : World} {B : Nat} {O : Nat → Prop} {av : Value} {l : List (Ak × Value)} (h : AsksAt w B O av l) (hb : Below w.heap.size w W) : AsksAt W B O av l :=
  h.keep (fun g cs t hr _ hn => ⟨hb.block g hr.lt, hn⟩)
theorem AsksAt.went {w W : World} {B Bm : Nat} {O O' : Nat → Prop} {av : Value} {l : List (Ak × Value)} (h : AsksAt w B O av l) (hw : Went Bm O O' w W) : AsksAt W B O' av l :=
  h.keep (fun g cs t hr _ hn => ⟨hw.other g hr.lt hn, hw.no hr.lt hn⟩)
theorem in_ty {w : World} {B : Nat} {O : Nat → Prop} {v : Value} {l : List (Rq × Value)} {g : Nat} {cs : Array Value} {t : TypeId} (h : InAt w B O v l) (hr : RowAt w g cs t) (ht : t ≠ 102) : v.ownBlock ≠ some g := fun e => ht (own_ty h.row e hr)
theorem AsksAt.went1 {w W : World} {B Bi Bm : Nat} {O O' : Nat → Prop} {v v' av : Value} {l : List (Ak × Value)} {li : List (Rq × Value)} (h : AsksAt w B O av l) (hI : InAt w Bi O v li) (hw : Went Bm (Or1 O v) (Or1 O' v') w W) : AsksAt W B O' av l :=
  h.keep (fun g cs t hr ht hn => by
    have hne : v.ownBlock ≠ some g := in_ty hI hr (by rcases ht with rfl | rfl <;> decide)
    have hno : ¬ Or1 O v g := fun e => e.elim hn hne
    exact ⟨hw.other g hr.lt hno, fun k => hno (hw.own g hr.lt (.inl k))⟩)
theorem AsksAt.only {w W : World} {B g : Nat} {O : Nat → Prop} {av : Value} {l : List (Ak × Value)} {cs : Array Value} {t : TypeId} (h : AsksAt w B O av l) (ho : Only g w W) (hr : RowAt w g cs t) (h1 : t ≠ 5) (h2 : t ≠ 81) : AsksAt W B O av l :=
  h.keep (fun x cx tx hx ht hn => ⟨ho.row x (fun e => by
    subst e
    have := hr.symm.trans hx
    simp at this
    rcases ht with q | q
    · exact h1 (this.2.trans q)
    · exact h2 (this.2.trans q)), hn⟩)
theorem own_grow {w W : World} {B e sz n : Nat} {v u : Value} {xs : List Value} {cs : Array Value} {t : TypeId} (h : w.ownsRow B e sz u n xs) (hg : w.grownBy W v.ownBlock) (hr : ∀ g, v.ownBlock = some g → ∃ cs, RowAt w g cs t) (ht : t ≠ e) : W.ownsRow B e sz u n xs :=
  own_at h (fun g hgu => hg.block g (h.lt g hgu).2 (fun k => by
    obtain ⟨cs, hr⟩ := hr g k.symm
    exact ht (own_ty h hgu hr)))
theorem InAt.rowT {w : World} {B : Nat} {O : Nat → Prop} {v : Value} {l : List (Rq × Value)} (h : InAt w B O v l) : ∀ g, v.ownBlock = some g → ∃ cs, RowAt w g cs 102 := fun g hg => by
  rcases h.row.2 with ⟨h1, _⟩ | ⟨g', cap, cur, h1, _, h3, _⟩
  · rw [h1] at hg; cases hg
  · rw [h1] at hg; cases hg; exact ⟨cur, h3⟩
/-- One request more. -/
theorem InAt.app {w W : World} {B : Nat} {O : Nat → Prop} {v v' wv : Value} {l : List (Rq × Value)} {q : Rq} (h : InAt w B O v l) (hr : W.ownsRow B 102 6 v' (l.length + 1) (reqL (l ++ [(q, wv)]))) (hg : w.grownBy W v.ownBlock) (hbk : v'.ownBlock = v.ownBlock ∨ v'.ownBlock = some w.heap.size) (hO : ∀ x, O x → x < w.heap.size)
    (hw : w.ownsRow B 103 3 wv q.l.length (segL q.l)) (hwn : ∀ g, wv.ownBlock = some g → ¬ O g) : InAt W B O v' (l ++ [(q, wv)]) := by
  refine ⟨by rw [List.length_append]; exact hr, fun x hx => ?_, fun g e => ?_, fun x hx g e => ?_⟩
  · rcases List.mem_append.1 hx with h1 | h1
    · exact own_grow (cs := #[]) (h.own x h1) hg h.rowT (by decide)
    · rw [List.mem_singleton.1 h1]; exact own_grow (cs := #[]) hw hg h.rowT (by decide)
  · rcases hbk with k | k
    · exact h.far g (k ▸ e)
    · rw [k] at e; cases e; exact fun k => absurd (hO _ k) (by omega)
  · rcases List.mem_append.1 hx with h1 | h1
    · exact h.fars x h1 g e
    · rw [List.mem_singleton.1 h1] at e; exact hwn g e
theorem went_app {B Bi : Nat} {O O1 : Nat → Prop} {w W W' : World} {v v' : Value} (h : Went B O O1 w W) (hg : W.grownBy W' v.ownBlock) (hbk : v'.ownBlock = v.ownBlock ∨ v'.ownBlock = some W.heap.size) (hv : ∀ g, v.ownBlock = some g → Bi ≤ g) (hB : B ≤ Bi) (hB2 : B ≤ w.heap.size) : Went B (Or1 O v) (Or1 O1 v') w W' :=
  ⟨grow_below h.below hg (Nat.le_trans hB2 h.size) (fun x hx => Nat.le_trans hB (hv x hx)), Nat.le_trans h.size hg.size,
   fun x hx hn => (hg.block x (Nat.lt_of_lt_of_le hx h.size) (fun k => hn (.inr k.symm))).trans (h.other x hx (fun e => hn (.inl e))),
   fun x hx e => by
    rcases e with e | e
    · exact .inl (h.own x hx e)
    · rcases hbk with k | k
      · exact .inr (k ▸ e)
      · rw [k] at e; cases e; exact absurd h.size (by omega)⟩
theorem went_onlyO {B g : Nat} {O O1 : Nat → Prop} {w w1 w2 : World} (h : Went B O O1 w w1) (ho : Only g w1 w2) (hg : w.heap.size ≤ g) (hB : B ≤ g) : Went B O O1 w w2 := h.only ho hg hB
theorem in_seg_ne {w : World} {B g : Nat} {O : Nat → Prop} {v : Value} {l : List (Rq × Value)} {x : Rq × Value} {cs : Array Value} (h : InAt w B O v l) (hx : x ∈ l) (e : x.2.ownBlock = some g) (hr : RowAt w g cs 53) : False := absurd (own_ty (h.own x hx) e hr) (by decide)
end Go.Proofs.YtaaiockiojejeaaGreatDoor
namespace Go.Proofs.YtaaiockiojejeaaGreatDoor
open Go.RowKit
set_option linter.unusedVariables false
set_option linter.unusedSimpArgs false

theorem reqL_erase (l : List (Rq × Value)) (k : Nat) : reqL (l.take k) ++ reqL (l.drop (k + 1)) = reqL (l.eraseIdx k) := by
  rw [← reqL_app, List.eraseIdx_eq_take_drop_succ]
theorem reqL_take (l : List (Rq × Value)) (k : Nat) : (reqL l).take (k * 6) = reqL (l.take k) := by
  by_cases h : k ≤ l.length
  · have e : reqL l = reqL (l.take k) ++ reqL (l.drop k) := by rw [← reqL_app, List.take_append_drop]
    rw [e, List.take_left' (by rw [reqL_len, List.length_take]; omega)]
  · rw [List.take_of_length_le (by rw [reqL_len]; omega), List.take_of_length_le (by omega)]
theorem reqL_drop (l : List (Rq × Value)) (k j : Nat) (u : Value) (h : (reqL (l.drop k))[j]? = some u) : (reqL l)[k * 6 + j]? = some u := by
  by_cases hk : k ≤ l.length
  · have e : reqL l = reqL (l.take k) ++ reqL (l.drop k) := by rw [← reqL_app, List.take_append_drop]
    have hl : (reqL (l.take k)).length = k * 6 := by rw [reqL_len, List.length_take]; omega
    rw [e, List.getElem?_append_right (by omega), hl, show k * 6 + j - k * 6 = j by omega]; exact h
  · rw [List.drop_of_length_le (by omega)] at h; cases h
/-- All but one block is as it was. -/
structure But1 (g : Nat) (w W : World) : Prop where
  size : w.heap.size ≤ W.heap.size
  row : ∀ x, x < w.heap.size → x ≠ g → W.heap[x]? = w.heap[x]?
  bel : ∀ B w0, B ≤ g → B ≤ w.heap.size → Below B w0 w → Below B w0 W
theorem But1.dr (g : Nat) (w : World) : But1 g w w.drew := ⟨Nat.le_refl _, fun _ _ _ => rfl, fun _ _ _ _ h => h.drew⟩
theorem But1.grow {g : Nat} {w W W' : World} (h : But1 g w W) (hg : W.grownBy W' (some g)) : But1 g w W' :=
  ⟨Nat.le_trans h.size hg.size, fun x hx hn => (hg.block x (Nat.lt_of_lt_of_le hx h.size) (fun e => hn (by cases e; rfl))).trans (h.row x hx hn), fun B w0 h1 h2 h3 => grow_below (h.bel B w0 h1 h2 h3) hg (Nat.le_trans h2 h.size) (fun x e => by cases e; exact h1)⟩
theorem But1.only {g : Nat} {w W W' : World} (h : But1 g w W) (ho : Only g W W') : But1 g w W' :=
  ⟨by rw [ho.size]; exact h.size, fun x hx hn => (ho.row x hn).trans (h.row x hx hn), fun B w0 h1 h2 h3 => ho.bel B w0 h1 (h.bel B w0 h1 h2 h3)⟩
theorem wp_appv {P : Program} {dst : Option Tmp} {t : TypeId} {pos : String} {after : Array Edge} {a : Act} {w W : World} {x y : Operand} {v1 v2 r : Value} {K : Act → World → Prop} {Q : Exit → Act → World → Prop}
    (h : (Builtin.append_ #[t, t] t #[v1, v2]).run P w = .ok r W) (hx : a.eval x = v1) (hy : a.eval y = v2) (k : K (a.put dst r) W) :
    Oper.wp P ⟨dst, .call { callee := .builtin .append, args := #[x, y], argTypes := #[t, t] }, t, pos, after, none⟩ a w K Q := by
  unfold Oper.wp
  have : (execOp a.eval ⟨dst, .call { callee := .builtin .append, args := #[x, y], argTypes := #[t, t] }, t, pos, after, none⟩).run P w = .ok (.value r) W := by
    simp [execOp, resolve, invoke, builtin, hx, hy, h, Result.andThen]
  rw [this, Oper.upon_value]
  exact k
set_option maxRecDepth 20000 in
set_option maxHeartbeats 4000000 in
theorem del_any (l : List (Rq × Value)) (hl : l.length ≤ 1000) (k : Nat) (hk : k < l.length) (h1 : ∀ u ∈ reqL l, u.oneCell' = true) {w : World} {B : Nat} {v : Value} (hL : w.ownsRow B 102 6 v l.length (reqL l)) :
    Calls Tryz.prog 49 #[v, .int .i64 (k : Nat), .int .i64 ((k + 1 : Nat) : Int)] w fun e w' => ∃ v', e = .returned v' ∧ w'.ownsRow B 102 6 v' (l.eraseIdx k).length (reqL (l.eraseIdx k)) ∧ v'.ownBlock = v.ownBlock ∧ ∃ g, v.ownBlock = some g ∧ But1 g w w' := by
  obtain ⟨n, hn⟩ : ∃ n, l.length = n := ⟨_, rfl⟩
  obtain ⟨m, rfl⟩ : ∃ m, n = m + 1 := ⟨n - 1, by omega⟩
  obtain ⟨gb, cap, cur0, rfl, hc1, hc2, hgB, hr, hcs, htk⟩ := own_row hL (by omega)
  obtain ⟨iR, qR1, qR2, qR3, qR4⟩ := info_r
  have HN := hide hn
  have hP := own_front (m := k) hL hr hr rfl (fun _ _ => rfl) (by omega)
  rw [reqL_take] at hP
  rw [hn] at hl hk hc1 ⊢
  have HP := hide hP
  have hde : (reqL (l.drop (k + 1))).length = (m + 1 - (k + 1)) * 6 := by rw [reqL_len, List.length_drop, hn]
  have hdc : ∀ j u, (reqL (l.drop (k + 1)))[j]? = some u → w.cell? ⟨gb, (k + 1) * 6 + j, none⟩ = some u := fun j u hu => by
    have h3 := reqL_drop l (k + 1) j u hu
    rw [← htk, List.getElem?_take] at h3
    split at h3
    · rw [Array.getElem?_toList] at h3
      exact (hr.cell _).trans h3
    · cases h3
  have hd1 : ∀ u ∈ reqL (l.drop (k + 1)), u.oneCell' = true := fun u hu => by
    obtain ⟨j, hj⟩ := List.getElem?_of_mem hu
    exact h1 u (List.mem_of_getElem? (reqL_drop l (k + 1) j u hj))
  have HDE := hide hde
  have HDC := hide hdc
  have HD1 := hide hd1
  clear hL hn hP hde hdc hd1 htk h1
  have i1 : (k : Int) ≤ ((m + 1 : Nat) : Int) := by omega
  have i2 : ((k + 1 : Nat) : Int) ≤ ((m + 1 : Nat) : Int) := by omega
  by_cases hcp : cap = k + 1
  · have j1 : ¬ cap < k := by omega
    have j2 : ¬ m + 1 < k + 1 := by omega
    go_enter Tryz.func49, Tryz.ntmps49
    go_wp2_with (fail)
    refine wp_region_held_drew (S := fun V => gb < V.heap.size) (by kernel_rfl) ?_ (fun hHeld => ?_)
    · exact hr.dr.lt
    have hP := own_dr HP.out
    have hdc : ∀ j u, (reqL (l.drop (k + 1)))[j]? = some u → w.drew.cell? ⟨gb, (k + 1) * 6 + j, none⟩ = some u := HDC.out
    have hK0 := But1.dr gb w
    generalize World.drew _ = V at hHeld hP hdc hK0 ⊢
    clear hr
    refine tkO 0 (.slice (some ⟨gb, 0, none⟩) (m + 1) cap) (by simp only [gT, gZ]; rfl) (puO (by (intro w hSw; (try dsimp only at hSw); go_simp))) ?_
    simp only [Act.put, pA, pZ, pS]
    refine tkO 1 (.int .i64 (k : Nat)) (by simp only [gT, gZ, gS]; rfl) (puO (by (intro w hSw; (try dsimp only at hSw); go_simp))) ?_
    simp only [Act.put, pA, pZ, pS]
    refine tkO 2 (.slice (some ⟨gb, 0, none⟩) k cap) (by simp only [gT, gZ, gS]; rfl) (puO (by (intro w hSw; (try dsimp only at hSw); go_simp  <;> (intro q; omega)))) ?_
    simp only [Act.put, pA, pZ, pS]
    refine tkO 3 (.slice (some ⟨gb, 0, none⟩) (m + 1) cap) (by simp only [gT, gZ, gS]; rfl) (puO (by (intro w hSw; (try dsimp only at hSw); go_simp))) ?_
    simp only [Act.put, pA, pZ, pS]
    refine tkO 4 (.int .i64 ((k + 1 : Nat) : Int)) (by simp only [gT, gZ, gS]; rfl) (puO (by (intro w hSw; (try dsimp only at hSw); go_simp))) ?_
    simp only [Act.put, pA, pZ, pS]
    refine tkO 5 (.slice (some ⟨gb, 0, none⟩) (m + 1 - (k + 1)) (0)) (by simp only [gT, gZ, gS]; rfl) (puO (by (intro w hSw; (try dsimp only at hSw); go_simp  <;> (intro q; omega)))) ?_
    simp only [Act.put, pA, pZ, pS]
    refine skO 6 (by simp only [gT, gZ, gS]; rfl) (fun K hK => ?_)
    rw [if_pos (by rfl)]
    obtain ⟨V2, a1, a2, a3⟩ := run_append_fits (P := Tryz.prog) (w := V) B 51 51 102 iR 6 Tryz.underlying51 qR1 qR3 gb k cap (reqL (l.take k)) hP ⟨gb, 0, none⟩ (m + 1 - (k + 1)) (0) (reqL (l.drop (k + 1))) HDE.out (fun j u hu => by rw [List.getElem?_eq_none (by rw [HDE.out]; omega)] at hu; cases hu) HD1.out (by omega)
    rw [reqL_erase, show k + (m + 1 - (k + 1)) = m by omega] at a2
    rw [show k + (m + 1 - (k + 1)) = m by omega] at a1
    refine wp_appv a1 rfl rfl ?_
    replace hK0 := hK0.grow a3
    refine hK.out _ _ ?_ (fun hHeld => ?_)
    · exact Nat.lt_of_lt_of_le hHeld a3.size
    clear hK K
    simp only [Act.put, pA, pZ, pS]
    refine tkO 7 (.slice (some ⟨gb, 0, none⟩) m cap) (by simp only [gT, gZ, gS]; rfl) (puO (by (intro w hSw; (try dsimp only at hSw); go_simp))) ?_
    simp only [Act.put, pA, pZ, pS]
    refine wpAnyH_done (by kernel_rfl) ?_ _
    clear hHeld hP hdc a1 a3
    obtain ⟨cur, hcr, hcz, hcap⟩ : ∃ cur, RowAt V2 gb cur 102 ∧ cur.size = cap * 6 ∧ m ≤ cap := by
      rcases a2.2 with ⟨h1, _⟩ | ⟨g', cap', cur1, h1, h2, h3, h4, h5, h6, h7⟩
      · cases h1
      · injection h1 with e1 e2 e3
        cases e1
        subst e3
        exact ⟨cur1, h3, h6, by omega⟩
    have HA2 := hide a2
    have hfit : m * 6 + 1 * (zeroRq.c nilS).size ≤ cur.size := by rw [hcz, show (zeroRq.c nilS).size = 6 from rfl]; omega
    have HCR := hide hcr
    clear hcp
    have hle := a2
    clear a2 hle
    have l1 : (m : Int) ≤ (cap : Int) := by omega
    have l2 : ((m + 1 : Nat) : Int) ≤ (cap : Int) := by omega
    have l3 : ¬ (cap : Int) = (m : Int) := by omega
    have l4 : ¬ cap = m := by omega
    go_wp2_with (first | ((with_reducible refine op_clear 51 102 Tryz.underlying51 (zeroRq.c nilS) zero_rq (by decide) (by decide) gb (m * 6) 1 (cap - m) (by decide) cur _ hcr hfit ?_ ?_); exact rfl; intro W cur' hnew hsz hkeep ho; replace hK0 := hK0.only ho))
    go_ret
    have hlen : (l.eraseIdx k).length = m := by rw [List.length_eraseIdx_of_lt (by rw [HN.out]; exact hk), HN.out]; rfl
    have hfin := own_front (m := m) HA2.out HCR.out hnew hsz hkeep (Nat.le_refl _)
    rw [List.take_of_length_le (by rw [reqL_len, hlen]; exact Nat.le_refl _)] at hfin
    exact ⟨_, rfl, by rw [hlen]; exact hfin, rfl, gb, rfl, hK0⟩
  · have j1 : ¬ cap < k := by omega
    have j2 : ¬ m + 1 < k + 1 := by omega
    go_enter Tryz.func49, Tryz.ntmps49
    go_wp2_with (fail)
    refine wp_region_held_drew (S := fun V => gb < V.heap.size) (by kernel_rfl) ?_ (fun hHeld => ?_)
    · exact hr.dr.lt
    have hP := own_dr HP.out
    have hdc : ∀ j u, (reqL (l.drop (k + 1)))[j]? = some u → w.drew.cell? ⟨gb, (k + 1) * 6 + j, none⟩ = some u := HDC.out
    have hK0 := But1.dr gb w
    generalize World.drew _ = V at hHeld hP hdc hK0 ⊢
    clear hr
    refine tkO 0 (.slice (some ⟨gb, 0, none⟩) (m + 1) cap) (by simp only [gT, gZ]; rfl) (puO (by (intro w hSw; (try dsimp only at hSw); go_simp))) ?_
    simp only [Act.put, pA, pZ, pS]
    refine tkO 1 (.int .i64 (k : Nat)) (by simp only [gT, gZ, gS]; rfl) (puO (by (intro w hSw; (try dsimp only at hSw); go_simp))) ?_
    simp only [Act.put, pA, pZ, pS]
    refine tkO 2 (.slice (some ⟨gb, 0, none⟩) k cap) (by simp only [gT, gZ, gS]; rfl) (puO (by (intro w hSw; (try dsimp only at hSw); go_simp  <;> (intro q; omega)))) ?_
    simp only [Act.put, pA, pZ, pS]
    refine tkO 3 (.slice (some ⟨gb, 0, none⟩) (m + 1) cap) (by simp only [gT, gZ, gS]; rfl) (puO (by (intro w hSw; (try dsimp only at hSw); go_simp))) ?_
    simp only [Act.put, pA, pZ, pS]
    refine tkO 4 (.int .i64 ((k + 1 : Nat) : Int)) (by simp only [gT, gZ, gS]; rfl) (puO (by (intro w hSw; (try dsimp only at hSw); go_simp))) ?_
    simp only [Act.put, pA, pZ, pS]
    refine tkO 5 (.slice (some ⟨gb, (k + 1) * 6, none⟩) (m + 1 - (k + 1)) (cap - (k + 1))) (by simp only [gT, gZ, gS]; rfl) (puO (by (intro w hSw; (try dsimp only at hSw); go_simp  <;> (intro q; omega)))) ?_
    simp only [Act.put, pA, pZ, pS]
    refine skO 6 (by simp only [gT, gZ, gS]; rfl) (fun K hK => ?_)
    rw [if_pos (by rfl)]
    obtain ⟨V2, a1, a2, a3⟩ := run_append_fits (P := Tryz.prog) (w := V) B 51 51 102 iR 6 Tryz.underlying51 qR1 qR3 gb k cap (reqL (l.take k)) hP ⟨gb, (k + 1) * 6, none⟩ (m + 1 - (k + 1)) (cap - (k + 1)) (reqL (l.drop (k + 1))) HDE.out (fun j u hu => by have := hdc j u hu; unfold Addr.add; split <;> simp_all) HD1.out (by omega)
    rw [reqL_erase, show k + (m + 1 - (k + 1)) = m by omega] at a2
    rw [show k + (m + 1 - (k + 1)) = m by omega] at a1
    refine wp_appv a1 rfl rfl ?_
    replace hK0 := hK0.grow a3
    refine hK.out _ _ ?_ (fun hHeld => ?_)
    · exact Nat.lt_of_lt_of_le hHeld a3.size
    clear hK K
    simp only [Act.put, pA, pZ, pS]
    refine tkO 7 (.slice (some ⟨gb, 0, none⟩) m cap) (by simp only [gT, gZ, gS]; rfl) (puO (by (intro w hSw; (try dsimp only at hSw); go_simp))) ?_
    simp only [Act.put, pA, pZ, pS]
    refine wpAnyH_done (by kernel_rfl) ?_ _
    clear hHeld hP hdc a1 a3
    obtain ⟨cur, hcr, hcz, hcap⟩ : ∃ cur, RowAt V2 gb cur 102 ∧ cur.size = cap * 6 ∧ m ≤ cap := by
      rcases a2.2 with ⟨h1, _⟩ | ⟨g', cap', cur1, h1, h2, h3, h4, h5, h6, h7⟩
      · cases h1
      · injection h1 with e1 e2 e3
        cases e1
        subst e3
        exact ⟨cur1, h3, h6, by omega⟩
    have HA2 := hide a2
    have hfit : m * 6 + 1 * (zeroRq.c nilS).size ≤ cur.size := by rw [hcz, show (zeroRq.c nilS).size = 6 from rfl]; omega
    have HCR := hide hcr
    clear hcp
    have hle := a2
    clear a2 hle
    have l1 : (m : Int) ≤ (cap : Int) := by omega
    have l2 : ((m + 1 : Nat) : Int) ≤ (cap : Int) := by omega
    have l3 : ¬ (cap : Int) = (m : Int) := by omega
    have l4 : ¬ cap = m := by omega
    go_wp2_with (first | ((with_reducible refine op_clear 51 102 Tryz.underlying51 (zeroRq.c nilS) zero_rq (by decide) (by decide) gb (m * 6) 1 (cap - m) (by decide) cur _ hcr hfit ?_ ?_); exact rfl; intro W cur' hnew hsz hkeep ho; replace hK0 := hK0.only ho))
    go_ret
    have hlen : (l.eraseIdx k).length = m := by rw [List.length_eraseIdx_of_lt (by rw [HN.out]; exact hk), HN.out]; rfl
    have hfin := own_front (m := m) HA2.out HCR.out hnew hsz hkeep (Nat.le_refl _)
    rw [List.take_of_length_le (by rw [reqL_len, hlen]; exact Nat.le_refl _)] at hfin
    exact ⟨_, rfl, by rw [hlen]; exact hfin, rfl, gb, rfl, hK0⟩
end Go.Proofs.YtaaiockiojejeaaGreatDoor
namespace Go.Proofs.YtaaiockiojejeaaGreatDoor
open Go.RowKit
set_option linter.unusedVariables false
set_option linter.unusedSimpArgs false

theorem own_askX {w : World} {B g : Nat} {k k' : Ak} {u : Value} (hr : RowAt w g (k.c u) 81) (hB : B ≤ g) (hk : k.c u = k'.c u) : w.ownsRow B 81 5 (.slice (some ⟨g, 0, none⟩) 1 1) [(k', u)].length (askL [(k', u)]) := by
  refine ⟨by rw [askL_len], .inr ⟨g, 1, k.c u, rfl, hB, hr, Nat.le_refl _, by decide, rfl, ?_⟩⟩
  rw [askL_one, hk]
  rfl
/-- How far the next number has come. -/
def nxM (SB nx k : Nat) (w : World) : Nat := match w.cell? ⟨SB, 23, none⟩ with
  | some (.int .u32 z) => k - (z.toNat + 4294967296 - nx) % 4294967296
  | _ => 0
theorem nxM_at {w : World} {SB nx k j t : Nat} {s : Bk} {v : Value} (h : RowAt w SB (({ s with nx := (nx + j) % 4294967296 } : Bk).c v) t) (hn : nx < 4294967296) (hj : j < 4294967296) : nxM SB nx k w = k - j := by
  unfold nxM
  rw [h.cell 23, Bk.at23]
  show k - ((((nx + j) % 4294967296 : Nat) : Int).toNat + 4294967296 - nx) % 4294967296 = k - j
  rw [Int.toNat_natCast]
  congr 1
  omega
theorem u32_mod (n : Nat) : IntKind.u32.wrap (n : Int) = ((n % 4294967296 : Nat) : Int) := by rw [IntKind.wrap_u32]; omega
theorem bs_req (q : Rq) (a : Option Addr) (n c : Nat) : BuiltR Tryz.prog 102 1 [(0, .agg (q.c (.slice a n c)))] (q.c (.slice a n c)) := ⟨by kernel_rfl⟩
theorem bs_ask (q : Ak) (a : Option Addr) (n c : Nat) : BuiltR Tryz.prog 81 1 [(0, .agg (q.c (.slice a n c)))] (q.c (.slice a n c)) := ⟨by kernel_rfl⟩
end Go.Proofs.YtaaiockiojejeaaGreatDoor
namespace Go.Proofs.YtaaiockiojejeaaGreatDoor
open Go.RowKit Go.Shelf
set_option linter.unusedVariables false

attribute [local go_sem] Oper.semAt_some
/-- The number of what has come. -/
def acc8 (pre : List Pair) : Nat := pre.foldl (fun s x => s * 256 % 18446744073709551616 ||| x.2.toNat) 0
theorem acc8_snoc (pre : List Pair) (x : Pair) : acc8 (pre ++ [x]) = (acc8 pre * 256 % 18446744073709551616 ||| x.2.toNat) := by simp [acc8]
theorem acc8_lt (pre : List Pair) : acc8 pre < 18446744073709551616 := by
  rcases List.eq_nil_or_concat pre with rfl | ⟨l, x, rfl⟩
  · decide
  · rw [List.concat_eq_append, acc8_snoc]
    have : x.2.toNat < 256 := x.2.toNat_lt
    exact Nat.or_lt_two_pow (n := 64) (Nat.mod_lt _ (by decide)) (by omega)
theorem acc8_arith (pre : List Pair) (x : Pair) : bits .or .u64 ((acc8 pre : Int) * 256 % 18446744073709551616) (x.2.toNat : Int) = ((acc8 (pre ++ [x]) : Nat) : Int) := by
  rw [acc8_snoc]
  have h1 : ((acc8 pre : Int) * 256 % 18446744073709551616) = ((acc8 pre * 256 % 18446744073709551616 : Nat) : Int) := by simp
  have : x.2.toNat < 256 := x.2.toNat_lt
  rw [h1, u64_or_nat _ _ (Nat.mod_lt _ (by decide)) (by omega)]
/-- What has come of bytes gone over backwards is their number. -/
theorem acc8_nm (l : List Nat) (hl : ∀ y ∈ l, y < 256) (h8 : l.length ≤ 8) : acc8 (upto (downAt (fun j => UInt8.ofNat ((l[j]?).getD 0)) l.length) l.length) = nmL l := by
  have key : ∀ k, k ≤ l.length → acc8 (upto (downAt (fun j => UInt8.ofNat ((l[j]?).getD 0)) l.length) k) = nmL (l.drop (l.length - k)) ∧ nmL (l.drop (l.length - k)) < 256 ^ k := by
    intro k
    induction k with
    | zero => intro _; rw [Nat.sub_zero, List.drop_length]; exact ⟨rfl, by decide⟩
    | succ k ih =>
      intro hk
      obtain ⟨i1, i2⟩ := ih (by omega)
      have hj : l.length - (k + 1) < l.length := by omega
      have hd : l.drop (l.length - (k + 1)) = l[l.length - (k + 1)] :: l.drop (l.length - k) := by
        rw [List.drop_eq_getElem_cons hj, show l.length - (k + 1) + 1 = l.length - k by omega]
      have hy := hl _ (List.getElem_mem hj)
      have hv : (downAt (fun j => UInt8.ofNat ((l[j]?).getD 0)) l.length k).2.toNat = l[l.length - (k + 1)] := by
        show (UInt8.ofNat ((l[l.length - 1 - k]?).getD 0)).toNat = _
        rw [show l.length - 1 - k = l.length - (k + 1) by omega, List.getElem?_eq_getElem hj]
        show (UInt8.ofNat l[l.length - (k + 1)]).toNat = _
        simp; omega
      have hk7 : (256 : Nat) ^ k ≤ 256 ^ 7 := Nat.pow_le_pow_right (by decide) (by omega)
      have h7 : (256 : Nat) ^ 7 = 72057594037927936 := by decide
      rw [upto_succ, acc8_snoc, hv, i1, hd]
      have hm : nmL (l.drop (l.length - k)) * 256 % 18446744073709551616 = nmL (l.drop (l.length - k)) * 256 := Nat.mod_eq_of_lt (by omega)
      rw [hm, show nmL (l.drop (l.length - k)) * 256 = nmL (l.drop (l.length - k)) * 2 ^ 8 from rfl, ← Nat.shiftLeft_eq, ← Nat.shiftLeft_add_eq_or_of_lt (by omega)]
      simp only [nmL, Nat.shiftLeft_eq]
      refine ⟨by omega, ?_⟩
      rw [Nat.pow_succ]
      have := Nat.mul_le_mul_left 256 (show nmL (l.drop (l.length - k)) + 1 ≤ 256 ^ k by omega)
      omega
  have := (key l.length (Nat.le_refl _)).1
  rwa [Nat.sub_self, List.drop_zero] at this
set_option maxRecDepth 100000 in
set_option maxHeartbeats 2000000 in
theorem number_wide (b off len cap : Nat) (g : Nat → UInt8) (hmax : len ≤ 140737488351232) (w : World) (hb : b < w.heap.size)
    (hc : ∀ j, j < len → w.cell? ⟨b, off + j, none⟩ = some (.int .u8 ((g j).toNat : Int))) :
    CallsIn Fence.wide 3 Tryz.prog 73 #[.slice (some ⟨b, off, none⟩) len cap] w fun e W' => e = .returned (.int .u64 (acc8 (upto (downAt g len) len) : Nat)) ∧ Below w.heap.size w W' := by
  have h1 : 1 ≤ 3 := by omega
  have hro : Fence.wide.round = none := rfl
  refine callsIn_of_wp_marks Tryz.func73 rfl trivial ?_ hro
  simp only [Tryz.ntmps73, List.size_toArray, List.length_cons, List.length_nil, Nat.reduceAdd, Nat.reduceSub, Array.replicate_succ, Array.replicate_zero, List.push_toArray, List.append_toArray, List.nil_append, List.cons_append]
  gi_wp2_with (first | (refine ⟨trivial, ?_⟩; gi_at_call 108; refine (backward_in Fence.wide _ trivial hro _ _ _ _).mono ?_; rintro e w' ⟨rfl, rfl⟩))
  have bS := Boxed.new w 108 (.int .u64 0)
  have bN := Boxed.new (w.alloc (.cells #[.int .u64 0] 108)) 37 (.slice (some ⟨b, off, none⟩) len cap)
  rw [World.size_alloc] at bN
  have hB0 : Below w.heap.size w ((w.alloc (.cells #[.int .u64 0] 108)).alloc (.cells #[.slice (some ⟨b, off, none⟩) len cap] 37)) := ((Below.refl _ w).alloc (Nat.le_refl _) _).alloc (by simp) _
  refine wpIn_rangeFunc_ownG hro h1 (gf := 133) (lb := #[.pointer (some ⟨w.heap.size + 1, 0, none⟩)]) rfl trivial (enters_of Tryz.func133 (by kernel_rfl) rfl)
    (backward_stops Fence.wide (3 - 1) trivial hro (by omega) (w.heap.size + 1) w.heap.size b off len cap g (by omega) hb _ (by simp) (by simp; omega) bN.cell
      (fun j hj => (hB0.cell (p := ⟨b, off + j, none⟩) hb).trans (hc j hj))) KeepB.trans (KeepB.put (by simp; omega) (by simp)) (Below.refl _ _) (fun _ => rfl)
    (fun pre W => (W.cell? ⟨w.heap.size, 0, none⟩ = some (.int .u64 (acc8 pre : Nat)) ∧ W.frozen? ⟨w.heap.size, 0, none⟩ = false) ∧ Below w.heap.size w W)
    (fun _ _ _ => False)
    (OwnFrom.and (Own.from (fun s A B row hs hg hr => ⟨cell_kept hs.1 hg hr, (frozen_kept hs.1 hg hr).trans hs.2⟩) _) (ownFrom_below (Nat.le_refl _) (by simp; omega)))
    (fun _ _ _ _ _ hs _ _ => hs)
    ⟨⟨(bS.alloc _).cell, (bS.alloc _).frozen⟩, hB0⟩
    (fun x => { tmps := #[.slice (some ⟨b, off, none⟩) len cap, undef, .int .u64 0, .pointer (some ⟨w.heap.size, 0, none⟩), undef, .int .u8 (x.2.toNat : Int), .slice (some ⟨b, off, none⟩) len cap, .func (.func 133) #[] #[.pointer (some ⟨w.heap.size + 1, 0, none⟩)], .int .i64 (x.1 : Int), .int .u8 (x.2.toNat : Int), undef, undef, undef, undef, undef, undef], defers := [] }) ?assign ?body ?done ?stop
  case assign =>
    intro l x W K hK
    gi_wp2
    exact hK
  case body =>
    rintro l pre x W ⟨⟨hcv, hf⟩, hB⟩ _
    have hlt := acc8_lt pre
    have hx : x.2.toNat < 256 := x.2.toNat_lt
    have HA : Hid (_) := acc8_arith pre x
    generalize acc8 pre = y at *
    clear hc
    gi_wp2
    exact ⟨(KeepsOthers.setCell _ _ _).from _, ⟨(Below.refl w.heap.size W).setCell (p := ⟨w.heap.size, 0, none⟩) (Nat.le_refl _) _, heap_setCell_other _ _ _ _ (by simp)⟩,
      ⟨by rw [← HA.out]; exact World.cell?_setCell_same' _ _ _ (by rw [hcv]; rfl), by rw [World.frozen?_setCell]; exact hf⟩, hB.setCell (p := ⟨w.heap.size, 0, none⟩) (Nat.le_refl _) _⟩
  case done =>
    rintro D ys W hD rfl ⟨⟨hcv, _⟩, hB⟩ hK
    gi_wp2
    refine ⟨by simp, .inl ⟨_, _, rfl, run_takeDeferred hK, ?_⟩⟩
    refine ⟨.int .u64 (acc8 (upto (downAt g len) len) : Nat), ?_, rfl, hB.trans (belowK_b (w := w) (Nat.le_refl _) W D _ _ (by simp at hD; omega) hK rfl rfl)⟩
    simp [results, Tryz.results73, go_sem]
  case stop =>
    rintro D c pre W _ _ h _
    exact h.elim
theorem number_any (l : List Nat) (hl : ∀ y ∈ l, y < 256) (h8 : l.length ≤ 8) (b off cap : Nat) (w : World) (hb : b < w.heap.size) (hc : ∀ j (h : j < l.length), w.cell? ⟨b, off + j, none⟩ = some (.int .u8 (l[j] : Nat))) :
    Calls Tryz.prog 73 #[.slice (some ⟨b, off, none⟩) l.length cap] w fun e w' => e = .returned (.int .u64 (nmL l : Nat)) ∧ Below w.heap.size w w' := by
  rw [← acc8_nm l hl h8]
  refine callsIn_wide.1 (number_wide b off l.length cap _ (by omega) w hb (fun j hj => ?_))
  rw [hc j hj]
  have := hl _ (List.getElem_mem hj)
  rw [List.getElem?_eq_getElem hj]
  show _ = some (Value.int .u8 (((UInt8.ofNat l[j]).toNat : Nat) : Int))
  rw [show (UInt8.ofNat l[j]).toNat = l[j] by simp; omega]
end Go.Proofs.YtaaiockiojejeaaGreatDoor
