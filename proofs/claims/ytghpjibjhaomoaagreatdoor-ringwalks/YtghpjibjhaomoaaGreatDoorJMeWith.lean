/-
  What word.With answers where the place may be: the bytes with the number's at the place, in new memory.
-/
import Derived.RangeFuncNested
import Derived.RangeFuncBound
import Derived.RangeFuncCalls
import Derived.RangeFuncLeaves
import Derived.Shelf.Abstract
import Derived.WalkKit
import Derived.OwnWalkIn
import Derived.TacticsInMore
import Derived.LoopNIn
import Derived.LoopIn
import Derived.Test.YtghpjibjhaomoaaGreatDoorJMeRead
import Derived.Laws.BitsAllLaws
import Derived.Test.YtghpjibjhaomoaaGreatDoorJBase
import Derived.OwnWalk
import Derived.WalkSmall
import Derived.Laws.CopyOwn
import Derived.Deep.AppendSrc
namespace Go.Proofs.YtghpjibjhaomoaaGreatDoor
open Go.RowKit Go.Shelf
set_option linter.unusedVariables false
attribute [local go_sem] Oper.semAt_some

/-- What has come when k rounds are over: f 0, .., f (k - 1). -/
def upto {α : Type} (f : Nat → α) (k : Nat) : List α := (List.range k).map f
theorem upto_succ {α : Type} (f : Nat → α) (k : Nat) : upto f (k + 1) = upto f k ++ [f k] := by simp [upto, List.range_succ]
theorem upto_length {α : Type} (f : Nat → α) (k : Nat) : (upto f k).length = k := by simp [upto]

/-- A round keeps what lay below n₀, and the box Bs. -/
def KeepB (n₀ Bs : Nat) (A B : World) : Prop := Below n₀ A B ∧ B.heap[Bs]? = A.heap[Bs]?
theorem KeepB.refl (n₀ Bs : Nat) (A : World) : KeepB n₀ Bs A A := ⟨Below.refl _ _, rfl⟩
theorem KeepB.trans {n₀ Bs : Nat} {A B C : World} (h : KeepB n₀ Bs A B) (k : KeepB n₀ Bs B C) : KeepB n₀ Bs A C := ⟨h.1.trans k.1, k.2.trans h.2⟩
theorem KeepB.put {n₀ Bs : Nat} {w : World} (hn : n₀ ≤ w.heap.size) (hB : Bs < w.heap.size) (W : World) (l : Nat) (o o' : Obj) (hl : w.heap.size ≤ l) (h : W.heap[l]? = some o) (c1 : o.isCells = false) (c2 : o.isWalk = false) : KeepB n₀ Bs W (W.putObj l o') :=
  ⟨belowK_b hn W l o o' hl h c1 c2, World.putObj_heap_other (by omega)⟩

theorem cell_of_same {A B : World} {b : Nat} (h : B.heap[b]? = A.heap[b]?) (o : Nat) : B.cell? ⟨b, o, none⟩ = A.cell? ⟨b, o, none⟩ := by
  simp [World.cell?, h]

abbrev Pair := Nat × UInt8
def downAt (g : Nat → UInt8) (len : Nat) (k : Nat) : Pair := (len - 1 - k, g (len - 1 - k))

set_option maxRecDepth 100000 in
set_option maxHeartbeats 2000000 in
theorem backward1_in (F : Fence) (n : Nat) (hf : F.fn 90) (hro : F.round = none) (hn : 1 ≤ n) (l Bs n₀ b off len cap : Nat) (g : Nat → UInt8) (hreach : len ≤ 140737488351232) (hb : b < n₀) (J Jx : List Pair → World → Prop)
    (hY : ∀ pre x W, J pre W → pre.length < len → YieldAt F (n - 1) Tryz.prog l #[.int .i64 (x.1 : Int), .int .u8 (x.2.toNat : Int)] W fun e W' =>
      (e = .returned (.bool true) ∧ J (pre ++ [x]) W' ∧ KeepB n₀ Bs W W') ∨ (e = .returned (.bool false) ∧ Jx (pre ++ [x]) W'))
    (W : World) (hBs : W.cell? ⟨Bs, 0, none⟩ = some (.slice (some ⟨b, off, none⟩) len cap)) (hc : ∀ j, j < len → W.cell? ⟨b, off + j, none⟩ = some (.int .u8 ((g j).toNat : Int))) (h0 : J [] W) :
    CallsIn F n Tryz.prog 90 #[.func (.yield l) #[] #[], .pointer (some ⟨Bs, 0, none⟩)] W fun e W' => (∃ v, e = .returned v) ∧
      ((∃ ys, ys = upto (downAt g len) len ∧ J ys W') ∨ (∃ pre, (∃ k, k ≤ len ∧ pre = upto (downAt g len) k) ∧ Jx pre W')) := by
  refine callsIn_of_wp Tryz.func90 rfl hf ?_ hro
  simp only [Tryz.ntmps90, List.size_toArray, List.length_cons, List.length_nil, Nat.reduceAdd, Nat.reduceSub, Array.replicate_succ, Array.replicate_zero, List.push_toArray, List.append_toArray, List.nil_append, List.cons_append]
  gi_wp2
  gi_loopw [3] (fun i wr => ∃ k : Nat, k ≤ len ∧ i = .int .i64 ((len : Int) - 1 - k) ∧ J (upto (downAt g len) k) wr ∧ KeepB n₀ Bs W wr)
    (fun i _ => (intOf i + 1).toNat)
  case atStart => exact ⟨0, Nat.zero_le _, by simp, h0, KeepB.refl _ _ _⟩
  case round =>
    obtain ⟨k, hk, rfl, hJs, hnx⟩ := hrel
    have hBs' : wr.cell? ⟨Bs, 0, none⟩ = some (.slice (some ⟨b, off, none⟩) len cap) := (cell_of_same hnx.2 0).trans hBs
    by_cases hlt : k < len
    · obtain ⟨m, hm⟩ : ∃ m, m = len - 1 - k := ⟨_, rfl⟩
      have hmi : (len : Int) - 1 - k = (m : Int) := by omega
      have hml : m < len := by omega
      have hcx : wr.cell? ⟨b, off + m, none⟩ = some (.int .u8 ((g m).toNat : Int)) := (hnx.1.cell (p := ⟨b, off + m, none⟩) hb).trans (hc m hml)
      obtain ⟨fn, tmps, assign, body, hy, hR⟩ := hY _ (m, g m) wr hJs (by rw [upto_length]; exact hlt)
      dsimp only at hy
      have HE : Hid ((m, g m) = downAt g len k) := by show _ = _; unfold downAt; rw [hm]
      rw [hmi]
      have HM : Hid (m = len - 1 - k) := hm
      have HI : Hid ((len : Int) - 1 - k = (m : Int)) := hmi
      clear hmi hm
      gi_wp2
      refine hR.mono ?_
      rintro e W3 (⟨rfl, hJ3, hk3⟩ | ⟨rfl, hJx3⟩)
      · gi_wp2
        go_roundw
        case rel => exact ⟨k + 1, by omega, by have := HM.out; go_num, by rw [upto_succ, ← HE.out]; exact hJ3, hnx.trans hk3⟩
        case measure => simp [intOf]
      · gi_wp2
        refine bodyPost_ret (results_none rfl _ _ _) rfl ?_
        exact ⟨⟨_, rfl⟩, .inr ⟨_, ⟨k + 1, by omega, by rw [upto_succ, ← HE.out]⟩, hJx3⟩⟩
    · obtain rfl : k = len := by omega
      gi_wp2
      go_end0
      exact ⟨⟨_, rfl⟩, .inl ⟨_, rfl, hJs⟩⟩

set_option maxHeartbeats 1000000 in
theorem backward_in (F : Fence) (n : Nat) (hf : F.fn 85) (hro : F.round = none) (a : Option Addr) (len cap : Nat) (w : World) :
    CallsIn F n Tryz.prog 85 #[.slice a len cap] w fun e w' => e = .returned (.func (.func 90) #[] #[.pointer (some ⟨w.heap.size, 0, none⟩)]) ∧ w' = w.alloc (.cells #[.slice a len cap] 28) := by
  refine callsIn_of_wp Tryz.func85 rfl hf ?_ hro
  simp only [Tryz.ntmps85, List.size_toArray, List.length_cons, List.length_nil, Nat.reduceAdd, Nat.reduceSub, Array.replicate_succ, Array.replicate_zero, List.push_toArray, List.append_toArray, List.nil_append, List.cons_append]
  gi_wp2
  go_ret
  exact ⟨rfl, rfl⟩

theorem backward_stops (F : Fence) (n : Nat) (hf : F.fn 90) (hro : F.round = none) (hn : 1 ≤ n) (Bs n₀ b off len cap : Nat) (g : Nat → UInt8) (hreach : len ≤ 140737488351232) (hb : b < n₀) (w : World) (hBs : Bs < w.heap.size) (hn₀ : n₀ ≤ w.heap.size)
    (hc : w.cell? ⟨Bs, 0, none⟩ = some (.slice (some ⟨b, off, none⟩) len cap)) (hI : ∀ j, j < len → w.cell? ⟨b, off + j, none⟩ = some (.int .u8 ((g j).toNat : Int))) :
    SeqStopsK F n Tryz.prog 90 #[.pointer (some ⟨Bs, 0, none⟩)] (fun x : Pair => #[Value.int .i64 (x.1 : Int), Value.int .u8 (x.2.toNat : Int)]) (KeepB n₀ Bs) (fun ys => ys = upto (downAt g len) len)
      (fun pre => ∃ k, k ≤ len ∧ pre = upto (downAt g len) k) len w := fun l J Jx W hW _ _ hY h0 => by
  have hc' := (hW.cell (p := ⟨Bs, 0, none⟩) hBs).trans hc
  exact backward1_in F n hf hro hn l Bs n₀ b off len cap g hreach hb J Jx hY W hc' (fun j hj => (hW.cell (p := ⟨b, off + j, none⟩) (by show b < _; omega)).trans (hI j hj)) h0
end Go.Proofs.YtghpjibjhaomoaaGreatDoor
namespace Go.Proofs.YtghpjibjhaomoaaGreatDoor
open Go.RowKit Go.Shelf
set_option linter.unusedVariables false
attribute [local go_sem] Oper.semAt_some

set_option maxHeartbeats 400000 in
theorem check_ok (size at_ n : Int) (hs : 0 ≤ size) (hs2 : size ≤ 9223372036854775807) (hn : n = 1 ∨ n = 2 ∨ n = 4) (h0 : 0 ≤ at_) (h1 : at_ ≤ size - n) (h2 : at_ % n = 0) (w : World) :
    Calls Tryz.prog 74 #[.int .i64 size, .int .i64 at_, .int .i64 n] w fun e w' => e = .returned .nilIface ∧ w' = w := by
  rcases hn with rfl | rfl | rfl
  · go_enter Tryz.func74, Tryz.ntmps74
    go_wp2
    go_ret
    exact ⟨rfl, rfl⟩
  · go_enter Tryz.func74, Tryz.ntmps74
    go_wp2
    go_ret
    exact ⟨rfl, rfl⟩
  · go_enter Tryz.func74, Tryz.ntmps74
    go_wp2
    go_ret
    exact ⟨rfl, rfl⟩

/-- The number of what has come. -/
def accN (pre : List Pair) : Nat := pre.foldl (fun s x => s * 256 % 4294967296 ||| x.2.toNat) 0
theorem accN_snoc (pre : List Pair) (x : Pair) : accN (pre ++ [x]) = (accN pre * 256 % 4294967296 ||| x.2.toNat) := by simp [accN]
theorem accN_lt (pre : List Pair) : accN pre < 4294967296 := by
  rcases List.eq_nil_or_concat pre with rfl | ⟨l, x, rfl⟩
  · decide
  · rw [List.concat_eq_append, accN_snoc]
    have : x.2.toNat < 256 := x.2.toNat_lt
    exact Nat.or_lt_two_pow (n := 32) (Nat.mod_lt _ (by decide)) (by omega)
theorem acc_arith (pre : List Pair) (x : Pair) : bits .or .u32 ((accN pre : Int) * 256 % 4294967296) (x.2.toNat : Int) = ((accN (pre ++ [x]) : Nat) : Int) := by
  rw [accN_snoc]
  have h1 : ((accN pre : Int) * 256 % 4294967296) = ((accN pre * 256 % 4294967296 : Nat) : Int) := by simp
  have : x.2.toNat < 256 := x.2.toNat_lt
  rw [h1, u32_or_nat _ _ (Nat.mod_lt _ (by decide)) (by omega)]

def getN (g : Nat → UInt8) (at_ n : Nat) : Nat := accN (upto (downAt (fun j => g (at_ + j)) n) n)

set_option maxRecDepth 100000 in
set_option maxHeartbeats 2000000 in
theorem get_wide (b off len cap : Nat) (g : Nat → UInt8) (at_ n : Nat) (hn : n = 1 ∨ n = 2 ∨ n = 4) (hal : at_ % n = 0) (hfit : at_ + n ≤ len) (hcap : len ≤ cap) (hmax : len ≤ 140737488351232) (hcm : cap ≤ 9223372036854775807) (w : World) (hb : b < w.heap.size)
    (hc : ∀ j, j < len → w.cell? ⟨b, off + j, none⟩ = some (.int .u8 ((g j).toNat : Int))) :
    CallsIn Fence.wide 3 Tryz.prog 76 #[.slice (some ⟨b, off, none⟩) len cap, .int .i64 at_, .int .i64 n] w fun e W' => e = .returned (.tuple #[.int .u32 (getN g at_ n : Nat), .nilIface]) ∧ Below w.heap.size w W' := by
  have h1 : 1 ≤ 3 := by omega
  have hro : Fence.wide.round = none := rfl
  have hn4 : n ≤ 4 := by omega
  have hn1 : 1 ≤ n := by omega
  have hck := check_ok (len : Int) (at_ : Int) (n : Int) (by omega) (by omega) (by omega) (by omega) (by omega) (by omega)
  have HK : Hid (_) := hck
  clear hck
  refine callsIn_of_wp_marks Tryz.func76 rfl trivial ?_ hro
  simp only [Tryz.ntmps76, List.size_toArray, List.length_cons, List.length_nil, Nat.reduceAdd, Nat.reduceSub, Array.replicate_succ, Array.replicate_zero, List.push_toArray, List.append_toArray, List.nil_append, List.cons_append]
  gi_wp2_with (first | (refine ⟨trivial, ?_⟩; gi_at_call 74; refine (callsIn_wide.2 (HK.out _)).mono ?_; rintro e w' ⟨rfl, rfl⟩) | (refine ⟨trivial, ?_⟩; gi_at_call 85; refine (backward_in Fence.wide _ trivial hro _ _ _ _).mono ?_; rintro e w' ⟨rfl, rfl⟩))
  have bS := Boxed.new w' 22 (.int .u32 0)
  have bN := Boxed.new (w'.alloc (.cells #[.int .u32 0] 22)) 28 (.slice (some ⟨b, off + at_, none⟩) n (cap - at_))
  rw [World.size_alloc] at bN
  have hB0 : Below w'.heap.size w' ((w'.alloc (.cells #[.int .u32 0] 22)).alloc (.cells #[.slice (some ⟨b, off + at_, none⟩) n (cap - at_)] 28)) := ((Below.refl _ w').alloc (Nat.le_refl _) _).alloc (by simp) _
  refine wpIn_rangeFunc_ownG hro h1 (gf := 90) (lb := #[.pointer (some ⟨w'.heap.size + 1, 0, none⟩)]) rfl trivial (enters_of Tryz.func90 (by kernel_rfl) rfl)
    (backward_stops Fence.wide (3 - 1) trivial hro (by omega) (w'.heap.size + 1) w'.heap.size b (off + at_) n (cap - at_) (fun j => g (at_ + j)) (by omega) hb _ (by simp) (by simp; omega) bN.cell
      (fun j hj => (hB0.cell (p := ⟨b, off + at_ + j, none⟩) hb).trans (by rw [show off + at_ + j = off + (at_ + j) by omega]; exact hc (at_ + j) (by omega)))) KeepB.trans (KeepB.put (by simp; omega) (by simp)) (Below.refl _ _) (fun _ => rfl)
    (fun pre W => (W.cell? ⟨w'.heap.size, 0, none⟩ = some (.int .u32 (accN pre : Nat)) ∧ W.frozen? ⟨w'.heap.size, 0, none⟩ = false) ∧ Below w'.heap.size w' W)
    (fun _ _ _ => False)
    (OwnFrom.and (Own.from (fun s A B row hs hg hr => ⟨cell_kept hs.1 hg hr, (frozen_kept hs.1 hg hr).trans hs.2⟩) _) (ownFrom_below (Nat.le_refl _) (by simp; omega)))
    (fun _ _ _ _ _ hs _ _ => hs)
    ⟨⟨(bS.alloc _).cell, (bS.alloc _).frozen⟩, hB0⟩
    (fun x => { tmps := #[.slice (some ⟨b, off, none⟩) len cap, .int .i64 at_, .int .i64 n, undef, undef, undef, .int .u32 0, .nilIface, .nilIface, .pointer (some ⟨w'.heap.size, 0, none⟩), undef, .int .u8 (x.2.toNat : Int),
        .slice (some ⟨b, off, none⟩) len cap, .int .i64 len, .int .i64 at_, .int .i64 n, .nilIface, .nilIface, .bool false, undef, .slice (some ⟨b, off, none⟩) len cap, .int .i64 at_, .int .i64 at_, .int .i64 n, .int .i64 ((at_ : Int) + n),
        .slice (some ⟨b, off + at_, none⟩) n (cap - at_), .func (.func 90) #[] #[.pointer (some ⟨w'.heap.size + 1, 0, none⟩)], .int .i64 (x.1 : Int), .int .u8 (x.2.toNat : Int), undef, undef, undef, undef, undef, undef], defers := [] }) ?assign ?body ?done ?stop
  case assign =>
    intro l x W K hK
    gi_wp2
    exact hK
  case body =>
    rintro l pre x W ⟨⟨hcv, hf⟩, hB⟩ _
    have hlt := accN_lt pre
    have hx : x.2.toNat < 256 := x.2.toNat_lt
    have HA : Hid (_) := acc_arith pre x
    generalize accN pre = y at *
    clear hc
    gi_wp2
    exact ⟨(KeepsOthers.setCell _ _ _).from _, ⟨(Below.refl w'.heap.size W).setCell (p := ⟨w'.heap.size, 0, none⟩) (Nat.le_refl _) _, heap_setCell_other _ _ _ _ (by simp)⟩,
      ⟨by rw [← HA.out]; exact World.cell?_setCell_same' _ _ _ (by rw [hcv]; rfl), by rw [World.frozen?_setCell]; exact hf⟩, hB.setCell (p := ⟨w'.heap.size, 0, none⟩) (Nat.le_refl _) _⟩
  case done =>
    rintro D ys W hD rfl ⟨⟨hcv, _⟩, hB⟩ hK
    gi_wp2
    refine ⟨by simp, .inl ⟨_, _, rfl, run_takeDeferred hK, ?_⟩⟩
    refine ⟨.tuple #[.int .u32 (getN g at_ n : Nat), .nilIface], ?_, rfl, hB.trans (belowK_b (w := w') (Nat.le_refl _) W D _ _ (by simp at hD; omega) hK rfl rfl)⟩
    simp [results, Tryz.results76, go_sem, getN]
  case stop =>
    rintro D c pre W _ _ h _
    exact h.elim

theorem get_any (b off len cap : Nat) (g : Nat → UInt8) (at_ n : Nat) (hn : n = 1 ∨ n = 2 ∨ n = 4) (hal : at_ % n = 0) (hfit : at_ + n ≤ len) (hcap : len ≤ cap) (hmax : len ≤ 140737488351232) (hcm : cap ≤ 9223372036854775807) (w : World) (hb : b < w.heap.size)
    (hc : ∀ j, j < len → w.cell? ⟨b, off + j, none⟩ = some (.int .u8 ((g j).toNat : Int))) :
    Calls Tryz.prog 76 #[.slice (some ⟨b, off, none⟩) len cap, .int .i64 at_, .int .i64 n] w fun e W' => e = .returned (.tuple #[.int .u32 (getN g at_ n : Nat), .nilIface]) ∧ Below w.heap.size w W' :=
  callsIn_wide.1 (get_wide b off len cap g at_ n hn hal hfit hcap hmax hcm w hb hc)

def four (j : Nat) : UInt8 := if j = 0 then 1 else if j = 1 then 2 else if j = 2 then 3 else 4
end Go.Proofs.YtghpjibjhaomoaaGreatDoor
namespace Go.Proofs.YtghpjibjhaomoaaGreatDoor
open Go.RowKit
set_option linter.unusedVariables false

theorem infoByte : (Tryz.prog.info? 5).map (fun i => (i.zero, i.size, i.bytes)) = some (some (.int .u8 0), 1, 1) := by kernel_rfl
theorem sizeByte : (Tryz.prog.info? 5).map (·.size) = some 1 := by kernel_rfl

def cellsB (l : List UInt8) : List Value := l.map fun b => Value.int .u8 (b.toNat : Int)
theorem cellsB_length (l : List UInt8) : (cellsB l).length = l.length := by simp [cellsB]
theorem cellsB_one (l : List UInt8) : ∀ u ∈ cellsB l, u.oneCell' = true := by
  intro u hu
  obtain ⟨b, _, rfl⟩ := List.mem_map.1 hu
  rfl
theorem cellsB_set (l : List UInt8) (j : Nat) (b : UInt8) : cellsB (l.set j b) = (cellsB l).set j (.int .u8 (b.toNat : Int)) := by simp [cellsB, List.map_set]

/-- The bytes behind k stores of a number's lowest bytes. -/
def withTo (l : List UInt8) (at_ v : Nat) : Nat → List UInt8
  | 0 => l
  | k + 1 => (withTo l at_ v k).set (at_ + k) (UInt8.ofNat (v / 256 ^ k % 256))
theorem withTo_length (l : List UInt8) (at_ v k : Nat) : (withTo l at_ v k).length = l.length := by
  induction k with
  | zero => rfl
  | succ k ih => simp [withTo, ih]

theorem row_of {w : World} {base : Nat} {e : TypeId} {g N : Nat} {xs : List Value} (h : w.ownsRow base e 1 (.slice (some ⟨g, 0, none⟩) N N) N xs) :
    ∃ cur : List Value, w.heap[g]? = some (.cells cur.toArray e (0, 0)) ∧ cur.length = N ∧ base ≤ g := by
  rcases h.2 with ⟨h', _⟩ | ⟨g', cap', cur, h', hb, hg, _, _, hsz, _⟩
  · simp at h'
  · simp only [Value.slice.injEq, Option.some.injEq, Addr.mk.injEq, and_true, true_and] at h'
    obtain ⟨rfl, rfl⟩ := h'
    exact ⟨cur.toList, by simpa using hg, by simpa using hsz, hb⟩

theorem own_of_row {w : World} {base : Nat} {e : TypeId} {g N : Nat} {cur : List Value} (hg : w.heap[g]? = some (.cells cur.toArray e (0, 0))) (hl : cur.length = N) (hb : base ≤ g) (hN : N ≤ maxLen) :
    w.ownsRow base e 1 (.slice (some ⟨g, 0, none⟩) N N) N cur :=
  ⟨by omega, .inr ⟨g, N, cur.toArray, rfl, hb, hg, Nat.le_refl _, hN, by simp; omega, by simp [← hl]⟩⟩

theorem own_shape {w : World} {base : Nat} {e : TypeId} {N : Nat} {v : Value} {xs : List Value} (h : w.ownsRow base e 1 v N xs) (hN : 0 < N) : ∃ g c, v = .slice (some ⟨g, 0, none⟩) N c ∧ base ≤ g ∧ g < w.heap.size := by
  rcases h.2 with ⟨_, h0⟩ | ⟨g, cap, cur, rfl, hb, hg, _⟩
  · omega
  · exact ⟨g, cap, rfl, hb, (Array.getElem?_eq_some_iff.1 hg).1⟩

theorem splice_all {α : Type} (L cs : List α) (h : L.length = cs.length) : splice L 0 cs = cs := by
  simp [splice, ← h]

theorem byte_of (v k : Nat) : ((UInt8.ofNat (v / 256 ^ k % 256)).toNat : Int) = (v : Int) / 256 ^ k % 256 := by
  rw [UInt8.toNat_ofNat']
  simp

theorem pow_256 (k : Nat) : (2 : Int) ^ (8 * k) = 256 ^ k := by
  have h : (2 : Nat) ^ (8 * k) = 256 ^ k := by rw [Nat.pow_mul]
  have h2 : ((2 ^ (8 * k) : Nat) : Int) = ((256 ^ k : Nat) : Int) := by rw [h]
  simpa using h2

set_option maxHeartbeats 2000000 in
set_option maxRecDepth 100000 in
theorem with_ok (b off cap : Nat) (l : List UInt8) (at_ n : Nat) (hn : n = 1 ∨ n = 2 ∨ n = 4) (hal : at_ % n = 0) (hfit : at_ + n ≤ l.length) (hmax : l.length ≤ 140737488351232) (v : Nat) (hv : v < 4294967296) (w : World)
    (hsrc : ∀ j u, (cellsB l)[j]? = some u → w.cell? ⟨b, off + j, none⟩ = some u) (hb : b < w.heap.size) :
    Calls Tryz.prog 53 #[.slice (some ⟨b, off, none⟩) l.length cap, .int .i64 at_, .int .i64 n, .int .u32 v] w fun e w' => ∃ g, e = .returned (.tuple #[.slice (some ⟨g, 0, none⟩) l.length l.length, .nilIface]) ∧
      w'.ownsRow w.heap.size 5 1 (.slice (some ⟨g, 0, none⟩) l.length l.length) l.length (cellsB (withTo l at_ v n)) ∧ Below w.heap.size w w' := by
  obtain ⟨i0, hi, hz0, hz1, hz2⟩ := info_parts infoByte
  have HK := hide (check_ok (l.length : Int) (at_ : Int) (n : Int) (by omega) (by omega) (by omega) (by omega) (by omega) (by omega))
  have hn4 : n ≤ 4 := by omega
  have hn1 : 1 ≤ n := by omega
  have hcl := cellsB_length l
  have HC := hide hcl
  clear hal hn hcl
  generalize hN : l.length = N at *
  have HN := hide hN
  clear hN
  go_enter Tryz.func53, Tryz.ntmps53
  go_wp2_with (first | (go_at_call 74; refine (HK.out _).mono ?_; rintro e w1 ⟨rfl, rfl⟩) | (at_make; refine wpList_make_full _ rfl _ _ 28 rfl w1.heap.size 5 i0 (.int .u8 0) 1 Tryz.underlying28 hi hz0 hz1 .i64 .i64 _ _ N rfl rfl rfl rfl (by rw [hz2]; omega) (by unfold maxLen; omega) (Nat.le_refl _) ?_; intro w2 hown2 hgrow2; obtain ⟨cur, hcur, hcl2, hbg⟩ := row_of hown2; have hb2 := (Below.refl w1.heap.size w1).grown hgrow2 (Nat.le_refl _) (fun k e => by cases e); clear hown2 hgrow2) | (refine wpList_copy_splice rfl _ _ 28 28 rfl 5 Tryz.underlying28 sizeByte _ _ _ _ _ _ rfl rfl w1.heap.size 0 cur 5 hcur (cellsB l) (by rw [HC.out]; simp) (fun _ => ⟨rfl, ⟨b, off, none⟩, rfl, fun j u hj => by rw [Addr.add_lit]; exact (hb2.cell (p := ⟨b, off + j, none⟩) hb).trans (hsrc j u hj)⟩) (by rw [HC.out]; omega) (cellsB_one l) w1.heap.size w1 hb2 (Nat.le_refl _) ?_; intro w3 hg3 hb3))
  have hown3 : w3.ownsRow w1.heap.size 5 1 (.slice (some ⟨w1.heap.size, 0, none⟩) N N) N (cellsB (withTo l at_ v 0)) := by
    have h := hg3.out
    rw [splice_all cur (cellsB l) (by rw [HC.out]; exact hcl2)] at h
    exact own_of_row h HC.out (Nat.le_refl _) (by unfold maxLen; omega)
  clear hcur hcl2 hb2 hg3 hsrc hbg
  go_loopw [28] (fun iv wr => ∃ k : Nat, k ≤ n ∧ iv = .int .i64 k ∧ wr.ownsRow w1.heap.size 5 1 (.slice (some ⟨w1.heap.size, 0, none⟩) N N) N (cellsB (withTo l at_ v k)) ∧ Below w1.heap.size w1 wr) (fun iv _ => n - (intOf iv).toNat)
  case atStart => exact ⟨0, Nat.zero_le _, rfl, hown3, hb3⟩
  case round =>
    obtain ⟨k, hk, rfl, hrow, hB⟩ := hrel
    clear hown3 hb3
    by_cases hlt : k < n
    · have hc := hrow.cellAt (at_ + k) (by omega)
      have hf := hrow.frozenAt (at_ + k)
      have hst := (hrow.stored (at_ + k) (.int .u8 ((v : Int) / 256 ^ k % 256))).1
      have HS := hide (show (cellsB (withTo l at_ v k)).set (at_ + k) (.int .u8 ((v : Int) / 256 ^ k % 256)) = cellsB (withTo l at_ v (k + 1)) by rw [withTo, cellsB_set, byte_of])
      rw [HS.out] at hst
      have hlen : at_ + k < (cellsB (withTo l at_ v k)).length := by rw [cellsB_length, withTo_length, HN.out]; omega
      rw [List.getElem?_eq_getElem hlen] at hc
      generalize (cellsB (withTo l at_ v k))[at_ + k] = old at *
      have HT := hide hst
      clear hst
      have HP := hide (pow_256 k)
      go_wp2
      rw [HP.out]
      go_roundw
      case rel => exact ⟨k + 1, by omega, by go_num, HT.out, hB.setCell (p := ⟨w1.heap.size, at_ + k, none⟩) (Nat.le_refl _) _⟩
      case measure => simp [intOf]; omega
    · obtain rfl : k = n := by omega
      go_wp2
      go_ret2
      exact ⟨_, rfl, hrow, hB⟩
end Go.Proofs.YtghpjibjhaomoaaGreatDoor
