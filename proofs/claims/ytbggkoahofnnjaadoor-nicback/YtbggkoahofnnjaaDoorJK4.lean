/-
  What word.checkPlace, word.Get and the document's check and Get answer, whatever bytes, place and width are handed in.
-/
import Derived.RangeFuncNested
import Derived.RangeFuncBound
import Derived.RangeFuncCalls
import Derived.RangeFuncLeaves
import Derived.Shelf.Abstract
import Derived.WalkKit
import Derived.OwnWalkIn
import Derived.TacticsInMore
import Derived.LoopNIn
import Derived.LoopIn
import Derived.Test.YtbggkoahofnnjaaDoorJK3
import Derived.Laws.BitsAllLaws
import Derived.Test.YtbggkoahofnnjaaDoorJK1
namespace Go.Proofs.YtbggkoahofnnjaaDoor
open Go.RowKit Go.Shelf
set_option linter.unusedVariables false
attribute [local go_sem] Oper.semAt_some

/-- What has come when k rounds are over: f 0, .., f (k - 1). -/
def upto {α : Type} (f : Nat → α) (k : Nat) : List α := (List.range k).map f
theorem upto_succ {α : Type} (f : Nat → α) (k : Nat) : upto f (k + 1) = upto f k ++ [f k] := by simp [upto, List.range_succ]
theorem upto_length {α : Type} (f : Nat → α) (k : Nat) : (upto f k).length = k := by simp [upto]

/-- A round keeps what lay below n₀, and the box Bs. -/
def KeepB (n₀ Bs : Nat) (A B : World) : Prop := Below n₀ A B ∧ B.heap[Bs]? = A.heap[Bs]?
theorem KeepB.refl (n₀ Bs : Nat) (A : World) : KeepB n₀ Bs A A := ⟨Below.refl _ _, rfl⟩
theorem KeepB.trans {n₀ Bs : Nat} {A B C : World} (h : KeepB n₀ Bs A B) (k : KeepB n₀ Bs B C) : KeepB n₀ Bs A C := ⟨h.1.trans k.1, k.2.trans h.2⟩
theorem KeepB.put {n₀ Bs : Nat} {w : World} (hn : n₀ ≤ w.heap.size) (hB : Bs < w.heap.size) (W : World) (l : Nat) (o o' : Obj) (hl : w.heap.size ≤ l) (h : W.heap[l]? = some o) (c1 : o.isCells = false) (c2 : o.isWalk = false) : KeepB n₀ Bs W (W.putObj l o') :=
  ⟨belowK_b hn W l o o' hl h c1 c2, World.putObj_heap_other (by omega)⟩

theorem cell_of_same {A B : World} {b : Nat} (h : B.heap[b]? = A.heap[b]?) (o : Nat) : B.cell? ⟨b, o, none⟩ = A.cell? ⟨b, o, none⟩ := by
  simp [World.cell?, h]

abbrev Pair := Nat × UInt8
def downAt (g : Nat → UInt8) (len : Nat) (k : Nat) : Pair := (len - 1 - k, g (len - 1 - k))

set_option maxRecDepth 100000 in
set_option maxHeartbeats 2000000 in
theorem backward1_in (F : Fence) (n : Nat) (hf : F.fn 76) (hro : F.round = none) (hn : 1 ≤ n) (l Bs n₀ b off len cap : Nat) (g : Nat → UInt8) (hreach : len ≤ 140737488351232) (hb : b < n₀) (J Jx : List Pair → World → Prop)
    (hY : ∀ pre x W, J pre W → pre.length < len → YieldAt F (n - 1) Tryd.prog l #[.int .i64 (x.1 : Int), .int .u8 (x.2.toNat : Int)] W fun e W' =>
      (e = .returned (.bool true) ∧ J (pre ++ [x]) W' ∧ KeepB n₀ Bs W W') ∨ (e = .returned (.bool false) ∧ Jx (pre ++ [x]) W'))
    (W : World) (hBs : W.cell? ⟨Bs, 0, none⟩ = some (.slice (some ⟨b, off, none⟩) len cap)) (hc : ∀ j, j < len → W.cell? ⟨b, off + j, none⟩ = some (.int .u8 ((g j).toNat : Int))) (h0 : J [] W) :
    CallsIn F n Tryd.prog 76 #[.func (.yield l) #[] #[], .pointer (some ⟨Bs, 0, none⟩)] W fun e W' => (∃ v, e = .returned v) ∧
      ((∃ ys, ys = upto (downAt g len) len ∧ J ys W') ∨ (∃ pre, (∃ k, k ≤ len ∧ pre = upto (downAt g len) k) ∧ Jx pre W')) := by
  refine callsIn_of_wp Tryd.func76 rfl hf ?_ hro
  simp only [Tryd.ntmps76, List.size_toArray, List.length_cons, List.length_nil, Nat.reduceAdd, Nat.reduceSub, Array.replicate_succ, Array.replicate_zero, List.push_toArray, List.append_toArray, List.nil_append, List.cons_append]
  gi_wp2
  gi_loopw [3] (fun i wr => ∃ k : Nat, k ≤ len ∧ i = .int .i64 ((len : Int) - 1 - k) ∧ J (upto (downAt g len) k) wr ∧ KeepB n₀ Bs W wr)
    (fun i _ => (intOf i + 1).toNat)
  case atStart => exact ⟨0, Nat.zero_le _, by simp, h0, KeepB.refl _ _ _⟩
  case round =>
    obtain ⟨k, hk, rfl, hJs, hnx⟩ := hrel
    have hBs' : wr.cell? ⟨Bs, 0, none⟩ = some (.slice (some ⟨b, off, none⟩) len cap) := (cell_of_same hnx.2 0).trans hBs
    by_cases hlt : k < len
    · obtain ⟨m, hm⟩ : ∃ m, m = len - 1 - k := ⟨_, rfl⟩
      have hmi : (len : Int) - 1 - k = (m : Int) := by omega
      have hml : m < len := by omega
      have hcx : wr.cell? ⟨b, off + m, none⟩ = some (.int .u8 ((g m).toNat : Int)) := (hnx.1.cell (p := ⟨b, off + m, none⟩) hb).trans (hc m hml)
      obtain ⟨fn, tmps, assign, body, hy, hR⟩ := hY _ (m, g m) wr hJs (by rw [upto_length]; exact hlt)
      dsimp only at hy
      have HE : Hid ((m, g m) = downAt g len k) := by show _ = _; unfold downAt; rw [hm]
      rw [hmi]
      have HM : Hid (m = len - 1 - k) := hm
      have HI : Hid ((len : Int) - 1 - k = (m : Int)) := hmi
      clear hmi hm
      gi_wp2
      refine hR.mono ?_
      rintro e W3 (⟨rfl, hJ3, hk3⟩ | ⟨rfl, hJx3⟩)
      · gi_wp2
        go_roundw
        case rel => exact ⟨k + 1, by omega, by have := HM.out; go_num, by rw [upto_succ, ← HE.out]; exact hJ3, hnx.trans hk3⟩
        case measure => simp [intOf]
      · gi_wp2
        refine bodyPost_ret (results_none rfl _ _ _) rfl ?_
        exact ⟨⟨_, rfl⟩, .inr ⟨_, ⟨k + 1, by omega, by rw [upto_succ, ← HE.out]⟩, hJx3⟩⟩
    · obtain rfl : k = len := by omega
      gi_wp2
      go_end0
      exact ⟨⟨_, rfl⟩, .inl ⟨_, rfl, hJs⟩⟩

set_option maxHeartbeats 1000000 in
theorem backward_in (F : Fence) (n : Nat) (hf : F.fn 73) (hro : F.round = none) (a : Option Addr) (len cap : Nat) (w : World) :
    CallsIn F n Tryd.prog 73 #[.slice a len cap] w fun e w' => e = .returned (.func (.func 76) #[] #[.pointer (some ⟨w.heap.size, 0, none⟩)]) ∧ w' = w.alloc (.cells #[.slice a len cap] 22) := by
  refine callsIn_of_wp Tryd.func73 rfl hf ?_ hro
  simp only [Tryd.ntmps73, List.size_toArray, List.length_cons, List.length_nil, Nat.reduceAdd, Nat.reduceSub, Array.replicate_succ, Array.replicate_zero, List.push_toArray, List.append_toArray, List.nil_append, List.cons_append]
  gi_wp2
  go_ret
  exact ⟨rfl, rfl⟩

theorem backward_stops (F : Fence) (n : Nat) (hf : F.fn 76) (hro : F.round = none) (hn : 1 ≤ n) (Bs n₀ b off len cap : Nat) (g : Nat → UInt8) (hreach : len ≤ 140737488351232) (hb : b < n₀) (w : World) (hBs : Bs < w.heap.size) (hn₀ : n₀ ≤ w.heap.size)
    (hc : w.cell? ⟨Bs, 0, none⟩ = some (.slice (some ⟨b, off, none⟩) len cap)) (hI : ∀ j, j < len → w.cell? ⟨b, off + j, none⟩ = some (.int .u8 ((g j).toNat : Int))) :
    SeqStopsK F n Tryd.prog 76 #[.pointer (some ⟨Bs, 0, none⟩)] (fun x : Pair => #[Value.int .i64 (x.1 : Int), Value.int .u8 (x.2.toNat : Int)]) (KeepB n₀ Bs) (fun ys => ys = upto (downAt g len) len)
      (fun pre => ∃ k, k ≤ len ∧ pre = upto (downAt g len) k) len w := fun l J Jx W hW _ _ hY h0 => by
  have hc' := (hW.cell (p := ⟨Bs, 0, none⟩) hBs).trans hc
  exact backward1_in F n hf hro hn l Bs n₀ b off len cap g hreach hb J Jx hY W hc' (fun j hj => (hW.cell (p := ⟨b, off + j, none⟩) (by show b < _; omega)).trans (hI j hj)) h0
end Go.Proofs.YtbggkoahofnnjaaDoor
namespace Go.Proofs.YtbggkoahofnnjaaDoor
open Go.RowKit Go.Shelf
set_option linter.unusedVariables false
attribute [local go_sem] Oper.semAt_some

set_option maxHeartbeats 400000 in
theorem check_ok (size at_ n : Int) (hs : 0 ≤ size) (hs2 : size ≤ 9223372036854775807) (hn : n = 1 ∨ n = 2 ∨ n = 4) (h0 : 0 ≤ at_) (h1 : at_ ≤ size - n) (h2 : at_ % n = 0) (w : World) :
    Calls Tryd.prog 36 #[.int .i64 size, .int .i64 at_, .int .i64 n] w fun e w' => e = .returned .nilIface ∧ w' = w := by
  rcases hn with rfl | rfl | rfl
  · go_enter Tryd.func36, Tryd.ntmps36
    go_wp2
    go_ret
    exact ⟨rfl, rfl⟩
  · go_enter Tryd.func36, Tryd.ntmps36
    go_wp2
    go_ret
    exact ⟨rfl, rfl⟩
  · go_enter Tryd.func36, Tryd.ntmps36
    go_wp2
    go_ret
    exact ⟨rfl, rfl⟩

/-- The number of what has come. -/
def accN (pre : List Pair) : Nat := pre.foldl (fun s x => s * 256 % 4294967296 ||| x.2.toNat) 0
theorem accN_snoc (pre : List Pair) (x : Pair) : accN (pre ++ [x]) = (accN pre * 256 % 4294967296 ||| x.2.toNat) := by simp [accN]
theorem accN_lt (pre : List Pair) : accN pre < 4294967296 := by
  rcases List.eq_nil_or_concat pre with rfl | ⟨l, x, rfl⟩
  · decide
  · rw [List.concat_eq_append, accN_snoc]
    have : x.2.toNat < 256 := x.2.toNat_lt
    exact Nat.or_lt_two_pow (n := 32) (Nat.mod_lt _ (by decide)) (by omega)
theorem acc_arith (pre : List Pair) (x : Pair) : bits .or .u32 ((accN pre : Int) * 256 % 4294967296) (x.2.toNat : Int) = ((accN (pre ++ [x]) : Nat) : Int) := by
  rw [accN_snoc]
  have h1 : ((accN pre : Int) * 256 % 4294967296) = ((accN pre * 256 % 4294967296 : Nat) : Int) := by simp
  have : x.2.toNat < 256 := x.2.toNat_lt
  rw [h1, u32_or_nat _ _ (Nat.mod_lt _ (by decide)) (by omega)]

def getN (g : Nat → UInt8) (at_ n : Nat) : Nat := accN (upto (downAt (fun j => g (at_ + j)) n) n)

set_option maxRecDepth 100000 in
set_option maxHeartbeats 2000000 in
theorem get_wide (b off len cap : Nat) (g : Nat → UInt8) (at_ n : Nat) (hn : n = 1 ∨ n = 2 ∨ n = 4) (hal : at_ % n = 0) (hfit : at_ + n ≤ len) (hcap : len ≤ cap) (hmax : len ≤ 140737488351232) (hcm : cap ≤ 9223372036854775807) (w : World) (hb : b < w.heap.size)
    (hc : ∀ j, j < len → w.cell? ⟨b, off + j, none⟩ = some (.int .u8 ((g j).toNat : Int))) :
    CallsIn Fence.wide 3 Tryd.prog 68 #[.slice (some ⟨b, off, none⟩) len cap, .int .i64 at_, .int .i64 n] w fun e W' => e = .returned (.tuple #[.int .u32 (getN g at_ n : Nat), .nilIface]) ∧ Below w.heap.size w W' := by
  have h1 : 1 ≤ 3 := by omega
  have hro : Fence.wide.round = none := rfl
  have hn4 : n ≤ 4 := by omega
  have hn1 : 1 ≤ n := by omega
  have hck := check_ok (len : Int) (at_ : Int) (n : Int) (by omega) (by omega) (by omega) (by omega) (by omega) (by omega)
  have HK : Hid (_) := hck
  clear hck
  refine callsIn_of_wp_marks Tryd.func68 rfl trivial ?_ hro
  simp only [Tryd.ntmps68, List.size_toArray, List.length_cons, List.length_nil, Nat.reduceAdd, Nat.reduceSub, Array.replicate_succ, Array.replicate_zero, List.push_toArray, List.append_toArray, List.nil_append, List.cons_append]
  gi_wp2_with (first | (refine ⟨trivial, ?_⟩; gi_at_call 36; refine (callsIn_wide.2 (HK.out _)).mono ?_; rintro e w' ⟨rfl, rfl⟩) | (refine ⟨trivial, ?_⟩; gi_at_call 73; refine (backward_in Fence.wide _ trivial hro _ _ _ _).mono ?_; rintro e w' ⟨rfl, rfl⟩))
  have bS := Boxed.new w' 24 (.int .u32 0)
  have bN := Boxed.new (w'.alloc (.cells #[.int .u32 0] 24)) 22 (.slice (some ⟨b, off + at_, none⟩) n (cap - at_))
  rw [World.size_alloc] at bN
  have hB0 : Below w'.heap.size w' ((w'.alloc (.cells #[.int .u32 0] 24)).alloc (.cells #[.slice (some ⟨b, off + at_, none⟩) n (cap - at_)] 22)) := ((Below.refl _ w').alloc (Nat.le_refl _) _).alloc (by simp) _
  refine wpIn_rangeFunc_ownG hro h1 (gf := 76) (lb := #[.pointer (some ⟨w'.heap.size + 1, 0, none⟩)]) rfl trivial (enters_of Tryd.func76 (by kernel_rfl) rfl)
    (backward_stops Fence.wide (3 - 1) trivial hro (by omega) (w'.heap.size + 1) w'.heap.size b (off + at_) n (cap - at_) (fun j => g (at_ + j)) (by omega) hb _ (by simp) (by simp; omega) bN.cell
      (fun j hj => (hB0.cell (p := ⟨b, off + at_ + j, none⟩) hb).trans (by rw [show off + at_ + j = off + (at_ + j) by omega]; exact hc (at_ + j) (by omega)))) KeepB.trans (KeepB.put (by simp; omega) (by simp)) (Below.refl _ _) (fun _ => rfl)
    (fun pre W => (W.cell? ⟨w'.heap.size, 0, none⟩ = some (.int .u32 (accN pre : Nat)) ∧ W.frozen? ⟨w'.heap.size, 0, none⟩ = false) ∧ Below w'.heap.size w' W)
    (fun _ _ _ => False)
    (OwnFrom.and (Own.from (fun s A B row hs hg hr => ⟨cell_kept hs.1 hg hr, (frozen_kept hs.1 hg hr).trans hs.2⟩) _) (ownFrom_below (Nat.le_refl _) (by simp; omega)))
    (fun _ _ _ _ _ hs _ _ => hs)
    ⟨⟨(bS.alloc _).cell, (bS.alloc _).frozen⟩, hB0⟩
    (fun x => { tmps := #[.slice (some ⟨b, off, none⟩) len cap, .int .i64 at_, .int .i64 n, undef, undef, undef, .int .u32 0, .nilIface, .nilIface, .pointer (some ⟨w'.heap.size, 0, none⟩), undef, .int .u8 (x.2.toNat : Int),
        .slice (some ⟨b, off, none⟩) len cap, .int .i64 len, .int .i64 at_, .int .i64 n, .nilIface, .nilIface, .bool false, undef, .slice (some ⟨b, off, none⟩) len cap, .int .i64 at_, .int .i64 at_, .int .i64 n, .int .i64 ((at_ : Int) + n),
        .slice (some ⟨b, off + at_, none⟩) n (cap - at_), .func (.func 76) #[] #[.pointer (some ⟨w'.heap.size + 1, 0, none⟩)], .int .i64 (x.1 : Int), .int .u8 (x.2.toNat : Int), undef, undef, undef, undef, undef, undef], defers := [] }) ?assign ?body ?done ?stop
  case assign =>
    intro l x W K hK
    gi_wp2
    exact hK
  case body =>
    rintro l pre x W ⟨⟨hcv, hf⟩, hB⟩ _
    have hlt := accN_lt pre
    have hx : x.2.toNat < 256 := x.2.toNat_lt
    have HA : Hid (_) := acc_arith pre x
    generalize accN pre = y at *
    clear hc
    gi_wp2
    exact ⟨(KeepsOthers.setCell _ _ _).from _, ⟨(Below.refl w'.heap.size W).setCell (p := ⟨w'.heap.size, 0, none⟩) (Nat.le_refl _) _, heap_setCell_other _ _ _ _ (by simp)⟩,
      ⟨by rw [← HA.out]; exact World.cell?_setCell_same' _ _ _ (by rw [hcv]; rfl), by rw [World.frozen?_setCell]; exact hf⟩, hB.setCell (p := ⟨w'.heap.size, 0, none⟩) (Nat.le_refl _) _⟩
  case done =>
    rintro D ys W hD rfl ⟨⟨hcv, _⟩, hB⟩ hK
    gi_wp2
    refine ⟨by simp, .inl ⟨_, _, rfl, run_takeDeferred hK, ?_⟩⟩
    refine ⟨.tuple #[.int .u32 (getN g at_ n : Nat), .nilIface], ?_, rfl, hB.trans (belowK_b (w := w') (Nat.le_refl _) W D _ _ (by simp at hD; omega) hK rfl rfl)⟩
    simp [results, Tryd.results68, go_sem, getN]
  case stop =>
    rintro D c pre W _ _ h _
    exact h.elim

theorem get_any (b off len cap : Nat) (g : Nat → UInt8) (at_ n : Nat) (hn : n = 1 ∨ n = 2 ∨ n = 4) (hal : at_ % n = 0) (hfit : at_ + n ≤ len) (hcap : len ≤ cap) (hmax : len ≤ 140737488351232) (hcm : cap ≤ 9223372036854775807) (w : World) (hb : b < w.heap.size)
    (hc : ∀ j, j < len → w.cell? ⟨b, off + j, none⟩ = some (.int .u8 ((g j).toNat : Int))) :
    Calls Tryd.prog 68 #[.slice (some ⟨b, off, none⟩) len cap, .int .i64 at_, .int .i64 n] w fun e W' => e = .returned (.tuple #[.int .u32 (getN g at_ n : Nat), .nilIface]) ∧ Below w.heap.size w W' :=
  callsIn_wide.1 (get_wide b off len cap g at_ n hn hal hfit hcap hmax hcm w hb hc)

def four (j : Nat) : UInt8 := if j = 0 then 1 else if j = 1 then 2 else if j = 2 then 3 else 4
end Go.Proofs.YtbggkoahofnnjaaDoor
namespace Go.Proofs.YtbggkoahofnnjaaDoor
open Go.RowKit Go.Shelf
set_option linter.unusedVariables false
attribute [local go_sem] Oper.semAt_some

/-- The error's number of a place; 0 of a place that may be. -/
def codeN (size at_ n : Int) : Int := if n ≠ 1 ∧ n ≠ 2 ∧ n ≠ 4 then 21 else if at_ < 0 ∨ size - n < at_ then 4 else if at_ % n ≠ 0 then 5 else 0

set_option maxHeartbeats 1000000 in
theorem refcheck_any (a : Option Addr) (len cap : Nat) (hlen : len ≤ 140737488351232) (at_ n : Int) (w : World) :
    Calls Tryd.prog 41 #[.slice a len cap, .int .i64 at_, .int .i64 n] w fun e w' => e = .returned (.int .i64 (codeN len at_ n)) ∧ w' = w := by
  by_cases hw : n ≠ 1 ∧ n ≠ 2 ∧ n ≠ 4
  · have e : codeN len at_ n = 21 := by unfold codeN; rw [if_pos hw]
    rw [e]; clear e
    obtain ⟨n1, n2, n4⟩ := hw
    have b1 : (n != 1) = true := by rw [bne_iff_ne]; exact n1
    have b2 : (n != 2) = true := by rw [bne_iff_ne]; exact n2
    have b4 : (n != 4) = true := by rw [bne_iff_ne]; exact n4
    clear n1 n2 n4
    go_enter Tryd.func41, Tryd.ntmps41
    go_wp2
    go_ret
    exact ⟨rfl, rfl⟩
  · have hn : n = 1 ∨ n = 2 ∨ n = 4 := by omega
    by_cases hr : at_ < 0 ∨ (len : Int) - n < at_
    · have e : codeN len at_ n = 4 := by unfold codeN; rw [if_neg hw, if_pos hr]
      rw [e]; clear e hw
      by_cases h0 : at_ < 0
      · rcases hn with rfl | rfl | rfl
        all_goals
          go_enter Tryd.func41, Tryd.ntmps41
          go_wp2
          go_ret
          exact ⟨rfl, rfl⟩
      · have h1 : (len : Int) - n < at_ := by omega
        clear hr
        by_cases hnl : (len : Int) < n
        · rcases hn with rfl | rfl | rfl
          all_goals
            go_enter Tryd.func41, Tryd.ntmps41
            go_wp2
            go_ret
            exact ⟨rfl, rfl⟩
        · rcases hn with rfl | rfl | rfl
          all_goals
            go_enter Tryd.func41, Tryd.ntmps41
            go_wp2
            go_ret
            exact ⟨rfl, rfl⟩
    · have h0 : 0 ≤ at_ := by omega
      have h1 : at_ ≤ (len : Int) - n := by omega
      have hnl : n ≤ (len : Int) := by omega
      by_cases ha : at_ % n = 0
      · have e : codeN len at_ n = 0 := by unfold codeN; rw [if_neg hw, if_neg hr, if_neg (by omega)]
        rw [e]; clear e hw hr
        rcases hn with rfl | rfl | rfl
        all_goals
          go_enter Tryd.func41, Tryd.ntmps41
          go_wp2
          go_ret
          exact ⟨rfl, rfl⟩
      · have e : codeN len at_ n = 5 := by unfold codeN; rw [if_neg hw, if_neg hr, if_pos ha]
        rw [e]; clear e hw hr
        rcases hn with rfl | rfl | rfl
        · omega
        · have hb : (at_ % 2 != 0) = true := by rw [bne_iff_ne]; exact ha
          clear ha
          go_enter Tryd.func41, Tryd.ntmps41
          go_wp2
          go_ret
          exact ⟨rfl, rfl⟩
        · have hb : (at_ % 4 != 0) = true := by rw [bne_iff_ne]; exact ha
          clear ha
          go_enter Tryd.func41, Tryd.ntmps41
          go_wp2
          go_ret
          exact ⟨rfl, rfl⟩

/-- The number of so many bytes, byte by byte. -/
def refN (g : Nat → UInt8) (at_ : Nat) : Nat → Nat
  | 0 => 0
  | k + 1 => refN g at_ k + (g (at_ + k)).toNat * 256 ^ k
end Go.Proofs.YtbggkoahofnnjaaDoor
