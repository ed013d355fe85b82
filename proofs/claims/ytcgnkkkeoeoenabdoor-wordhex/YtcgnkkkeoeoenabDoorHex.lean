/-
  What word.Hex answers of any number: its eight digits; nothing that lay is turned.
-/
import Derived.Test.YtcgnkkkeoeoenabDoorGet
import Derived.Test.YtcgnkkkeoeoenabDoorRefHex
import Derived.Laws.IdiomStrings
import Derived.Laws.Rows
namespace Go.Proofs.YtcgnkkkeoeoenabDoor
open Go.RowKit Go.Shelf
set_option linter.unusedVariables false
attribute [local go_sem] Oper.semAt_some

/-- The cells are bytes, whichever. -/
def TypedB (b off len : Nat) (W : World) : Prop := ∀ j, j < len → ∃ c : UInt8, W.cell? ⟨b, off + j, none⟩ = some (.int .u8 (c.toNat : Int))
/-- A round keeps the box Bs, and that the cells are bytes. -/
def KeepT (Bs b off len : Nat) (A B : World) : Prop := B.heap[Bs]? = A.heap[Bs]? ∧ (TypedB b off len A → TypedB b off len B)
theorem KeepT.refl (Bs b off len : Nat) (A : World) : KeepT Bs b off len A A := ⟨rfl, id⟩
theorem KeepT.trans {Bs b off len : Nat} {A B C : World} (h : KeepT Bs b off len A B) (k : KeepT Bs b off len B C) : KeepT Bs b off len A C := ⟨k.1.trans h.1, fun t => k.2 (h.2 t)⟩
theorem KeepT.put {Bs b off len : Nat} {w : World} (hB : Bs < w.heap.size) (hb : b < w.heap.size) (W : World) (l : Nat) (o o' : Obj) (hl : w.heap.size ≤ l) (h : W.heap[l]? = some o) (c1 : o.isCells = false) (c2 : o.isWalk = false) : KeepT Bs b off len W (W.putObj l o') :=
  ⟨World.putObj_heap_other (by omega), fun t j hj => by
    obtain ⟨c, hc⟩ := t j hj
    exact ⟨c, (cell_of_same (World.putObj_heap_other (by omega)) _).trans hc⟩⟩

abbrev PairL (len : Nat) := { x : Nat × UInt8 // x.1 < len }
def downs (len k : Nat) : List Nat := (List.range k).map fun i => len - 1 - i
theorem downs_succ (len k : Nat) : downs len (k + 1) = downs len k ++ [len - 1 - k] := by simp [downs, List.range_succ]
theorem downs_length (len k : Nat) : (downs len k).length = k := by simp [downs]

set_option maxRecDepth 100000 in
set_option maxHeartbeats 2000000 in
theorem backwardT1_in (F : Fence) (n : Nat) (hf : F.fn 16) (hro : F.round = none) (hn : 1 ≤ n) (l Bs b off len cap : Nat) (hreach : len ≤ 140737488351232) (J Jx : List (PairL len) → World → Prop)
    (hY : ∀ pre x W, J pre W → pre.length < len → YieldAt F (n - 1) Tryd.prog l #[.int .i64 (x.1.1 : Int), .int .u8 (x.1.2.toNat : Int)] W fun e W' =>
      (e = .returned (.bool true) ∧ J (pre ++ [x]) W' ∧ KeepT Bs b off len W W') ∨ (e = .returned (.bool false) ∧ Jx (pre ++ [x]) W'))
    (W : World) (hBs : W.cell? ⟨Bs, 0, none⟩ = some (.slice (some ⟨b, off, none⟩) len cap)) (hc : TypedB b off len W) (h0 : J [] W) :
    CallsIn F n Tryd.prog 16 #[.func (.yield l) #[] #[], .pointer (some ⟨Bs, 0, none⟩)] W fun e W' => (∃ v, e = .returned v) ∧
      ((∃ ys : List (PairL len), ys.map (·.1.1) = downs len len ∧ J ys W') ∨ (∃ pre : List (PairL len), True ∧ Jx pre W')) := by
  refine callsIn_of_wp Tryd.func16 rfl hf ?_ hro
  simp only [Tryd.ntmps16, List.size_toArray, List.length_cons, List.length_nil, Nat.reduceAdd, Nat.reduceSub, Array.replicate_succ, Array.replicate_zero, List.push_toArray, List.append_toArray, List.nil_append, List.cons_append]
  gi_wp2
  gi_loopw [3] (fun i wr => ∃ (k : Nat) (pre : List (PairL len)), k ≤ len ∧ i = .int .i64 ((len : Int) - 1 - k) ∧ pre.map (·.1.1) = downs len k ∧ J pre wr ∧ KeepT Bs b off len W wr)
    (fun i _ => (intOf i + 1).toNat)
  case atStart => exact ⟨0, [], Nat.zero_le _, by simp, rfl, h0, KeepT.refl _ _ _ _ _⟩
  case round =>
    obtain ⟨k, pre, hk, rfl, hpre, hJs, hnx⟩ := hrel
    have hBs' : wr.cell? ⟨Bs, 0, none⟩ = some (.slice (some ⟨b, off, none⟩) len cap) := (cell_of_same hnx.1 0).trans hBs
    have HPre := hide hpre
    clear hpre
    by_cases hlt : k < len
    · obtain ⟨m, hm⟩ : ∃ m, m = len - 1 - k := ⟨_, rfl⟩
      have hmi : (len : Int) - 1 - k = (m : Int) := by omega
      have hml : m < len := by omega
      obtain ⟨c, hcx⟩ := hnx.2 hc m hml
      have hpl : pre.length < len := by
        have := congrArg List.length HPre.out
        rw [List.length_map, downs_length] at this
        omega
      obtain ⟨fn, tmps, assign, body, hy, hR⟩ := hY pre ⟨(m, c), hml⟩ wr hJs hpl
      dsimp only at hy
      have HE := hide (show (pre ++ [(⟨(m, c), hml⟩ : PairL len)]).map (·.1.1) = downs len (k + 1) by rw [List.map_append, HPre.out, downs_succ, ← hm]; rfl)
      rw [hmi]
      have HM := hide hm
      have HI := hide hmi
      clear hmi hm hpl
      gi_wp2
      refine hR.mono ?_
      rintro e W3 (⟨rfl, hJ3, hk3⟩ | ⟨rfl, hJx3⟩)
      · gi_wp2
        go_roundw
        case rel => exact ⟨k + 1, _, by omega, by have := HM.out; go_num, HE.out, hJ3, hnx.trans hk3⟩
        case measure => simp [intOf]
      · gi_wp2
        refine bodyPost_ret (results_none rfl _ _ _) rfl ?_
        exact ⟨⟨_, rfl⟩, .inr ⟨_, trivial, hJx3⟩⟩
    · obtain rfl : k = len := by omega
      gi_wp2
      go_end0
      exact ⟨⟨_, rfl⟩, .inl ⟨_, HPre.out, hJs⟩⟩

theorem backwardT_stops (F : Fence) (n : Nat) (hf : F.fn 16) (hro : F.round = none) (hn : 1 ≤ n) (Bs b off len cap : Nat) (hreach : len ≤ 140737488351232) (w : World) (hBs : Bs < w.heap.size) (hb : b < w.heap.size)
    (hc : w.cell? ⟨Bs, 0, none⟩ = some (.slice (some ⟨b, off, none⟩) len cap)) (hI : TypedB b off len w) :
    SeqStopsK F n Tryd.prog 16 #[.pointer (some ⟨Bs, 0, none⟩)] (fun x : PairL len => #[Value.int .i64 (x.1.1 : Int), Value.int .u8 (x.1.2.toNat : Int)]) (KeepT Bs b off len) (fun ys => ys.map (·.1.1) = downs len len)
      (fun pre => True) len w := fun l J Jx W hW _ _ hY h0 => by
  have hc' := (hW.cell (p := ⟨Bs, 0, none⟩) hBs).trans hc
  exact backwardT1_in F n hf hro hn l Bs b off len cap hreach J Jx hY W hc' (fun j hj => by
    obtain ⟨c, h⟩ := hI j hj
    exact ⟨c, (hW.cell (p := ⟨b, off + j, none⟩) hb).trans h⟩) h0
end Go.Proofs.YtcgnkkkeoeoenabDoor
