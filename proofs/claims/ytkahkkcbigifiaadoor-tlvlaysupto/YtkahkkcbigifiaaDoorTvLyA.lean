/-
  TlvLays: what its walk needs.
-/
import Derived.Test.YtkahkkcbigifiaaDoorTvOutG
import Derived.Test.YtkahkkcbigifiaaDoorTvConP
import Derived.Test.YtkahkkcbigifiaaDoorTvRef3
namespace Go.Proofs.YtkahkkcbigifiaaDoor
open Go.RowKit
set_option linter.unusedVariables false
set_option linter.unusedSimpArgs false

variable {P : Program} {ops : Array Oper} {rest : List Oper} {dst : Option Tmp} {ty t t2 : TypeId} {pos : String} {after : Array Edge} {a : Act} {w : World} {Q : Exit → Act → World → Prop} {K : Act → World → Prop} {x y z : Operand} {gd : Option (Nat × Bool)}
theorem und_tt : Tryd.prog.underlying 66 = some (.slice 69) := Tryd.underlying66
theorem siz_tt : ∀ w : World, (sizeOf 69).run Tryd.prog w = .ok 4 w := fun w => by kernel_rfl
theorem ex_idxG (b off len cap k : Nat) (hk : k < len) (hx : a.eval x = .slice (some ⟨b, off, none⟩) len cap) (hy : a.eval y = .int .i64 (k : Nat)) (w : World) :
    (execOp a.eval ⟨dst, .indexAddr 66 x y, ty, pos, after, gd⟩).run Tryd.prog w = .ok (.value (.pointer (some ⟨b, off + k * 4, none⟩))) w := by
  have hk1 : (0 : Int) ≤ (k : Int) ∧ (k : Int) < (len : Int) := by omega
  have hk2 : ¬ len ≤ k := by omega
  unfold execOp
  simp [hx, hy, Instr.indexAt, asIntOf, run_underlying und_tt, hk1, hk2, siz_tt, Addr.add_lit]
/-- What a thing lays. -/
def piece (s : ThingS) : List Nat := if s.run = true then leN 4 s.b.length ++ s.b else if s.n < 1 ∨ 8 < s.n then [] else leN s.n.toNat s.v
def pcs : List ThingS → List Nat
  | [] => []
  | s :: l => piece s ++ pcs l
theorem pcs_app : ∀ (l m : List ThingS), pcs (l ++ m) = pcs l ++ pcs m
  | [], _ => rfl
  | s :: l, m => by rw [List.cons_append, pcs, pcs_app l m, pcs, List.append_assoc]
theorem pcs_succ (A : List ThingS) (k : Nat) (hk : k < A.length) : pcs (A.take (k + 1)) = pcs (A.take k) ++ piece A[k] := by
  rw [List.take_add_one, List.getElem?_eq_getElem hk, pcs_app]
  show _ ++ pcs [A[k]] = _
  rw [pcs, pcs, List.append_nil]
theorem pcs_drop (A : List ThingS) (k : Nat) (hk : k < A.length) : pcs (A.drop k) = piece A[k] ++ pcs (A.drop (k + 1)) := by
  rw [List.drop_eq_getElem_cons hk, pcs]
theorem layR_piece (b : List Nat) (s : ThingS) (h : s.run = true) : layR b s.b = b ++ piece s := by
  rw [layR, piece, if_pos h, List.append_assoc]
theorem layN_piece (b : List Nat) (s : ThingS) (h : s.run = false) : layN b s.v s.n = b ++ piece s := by
  have e : piece s = if s.n < 1 ∨ 8 < s.n then [] else leN s.n.toNat s.v := by rw [piece, if_neg (show ¬ s.run = true by rw [h]; decide)]
  rw [e, layN]
  split
  · rw [List.append_nil]
  · rfl
theorem piece_len {s : ThingS} {R : Nat} (h : s.b.length ≤ R) : (piece s).length ≤ R + 8 := by
  unfold piece
  split
  · rw [List.length_append, leN_len]; omega
  · split
    · simp
    · rw [leN_len]; omega
theorem pcs_len {R : Nat} : ∀ (A : List ThingS) (k : Nat), (∀ s ∈ A, s.b.length ≤ R) → (pcs (A.take k)).length ≤ k * (R + 8)
  | [], k, _ => by simp [pcs]
  | s :: A, 0, _ => by simp [pcs]
  | s :: A, k + 1, h => by
    have h1 := piece_len (h s (by simp))
    have h2 := pcs_len A k fun t ht => h t (by simp [ht])
    rw [List.take_succ_cons, pcs, List.length_append, Nat.add_mul]
    omega
theorem take_run (s : ThingS) (h : s.run = true) (hb : s.b.length < 4294967296) (r : List Nat) : takeR ⟨piece s ++ r, 0⟩ (s.b.length : Nat) = (⟨r, 0⟩, s.b) := by
  rw [piece, if_pos h, List.append_assoc]
  exact takeR_lay s.b hb r
theorem piece_none (s : ThingS) (h : s.run = false) (hn : s.n < 1 ∨ 8 < s.n) : piece s = [] := by rw [piece, if_neg (show ¬ s.run = true by rw [h]; decide), if_pos hn]
theorem take_num (s : ThingS) (h : s.run = false) (m : Nat) (hm : s.n = (m : Nat)) (h1 : 1 ≤ m) (h8 : m ≤ 8) (r : List Nat) : takeN ⟨piece s ++ r, 0⟩ (m : Nat) 18446744073709551615 = (⟨r, 0⟩, s.v % 256 ^ m) := by
  rw [piece, if_neg (show ¬ s.run = true by rw [h]; decide), if_neg (by omega), hm, Int.toNat_natCast]
  exact take_lay s.v m h1 h8 r
theorem Rd.back' {w W : World} {v : Value} {l : List Nat} (h : Rd w.heap.size W v l) (hb : Below w.heap.size w W) : Rd w.heap.size w v l := by
  obtain ⟨h1, a, cap, h2, h3, h4, h5⟩ := h
  refine ⟨h1, a, cap, h2, h3, h4, fun h0 => ?_⟩
  obtain ⟨b, off, e1, e2, e3⟩ := h5 h0
  exact ⟨b, off, e1, e2, fun j hj => (hb.cell (p := ⟨b, off + j, Option.none⟩) e2).symm.trans (e3 j hj)⟩
theorem Tch.below {p N : Nat} {u : Value} {w w' : World} (h : Tch p u w w') (hp : N ≤ p) (hu : ∀ k, u.ownBlock = some k → N ≤ k) (hN : N ≤ w.heap.size) : Below N w w' :=
  ⟨h.os, h.tape, h.output, h.size, fun k hk => h.block k (by omega) (by omega) (fun e => by have := hu k e; omega)⟩
theorem OutQ.own {p : Nat} {w : World} {u : Value} {l : List Nat} (h : OutQ p w u l) : ∀ k, u.ownBlock = some k → p + 1 ≤ k ∧ k < w.heap.size := fun k hk => h.2.row.lt k hk
/-- and of a number with a number's lowest bytes. -/
theorem and_low (V m : Nat) (hV : V < 18446744073709551616) (h8 : m < 8) : bits .and .u64 (V : Nat) (IntKind.u64.wrap (IntKind.u64.wrap (2 ^ (8 * m)) - 1)) = ((V % 256 ^ m : Nat) : Int) := by
  have hp : (2 : Nat) ^ (8 * m) < 2 ^ 64 := Nat.pow_lt_pow_right (by decide) (by omega)
  have h0 : 0 < (2 : Nat) ^ (8 * m) := Nat.pow_pos (by decide)
  have e : (256 : Nat) ^ m = 2 ^ (8 * m) := by rw [show (256 : Nat) = 2 ^ 8 from rfl, ← Nat.pow_mul]
  have e2 : ((2 : Int) ^ (8 * m)) = (((2 : Nat) ^ (8 * m) : Nat) : Int) := by push_cast; rfl
  rw [e, e2]
  generalize hq : (2 : Nat) ^ (8 * m) = q at *
  have e3 : IntKind.u64.wrap (IntKind.u64.wrap (q : Int) - 1) = ((q - 1 : Nat) : Int) := by
    rw [IntKind.wrap_u64, IntKind.wrap_u64]
    omega
  have ha' : V % 2 ^ 64 = V := Nat.mod_eq_of_lt hV
  have hb' : (q - 1) % 2 ^ 64 = q - 1 := Nat.mod_eq_of_lt (by omega)
  have hlt : V &&& (q - 1) ≤ V := Nat.and_le_left
  have hand : V &&& (q - 1) = V % q := by rw [← hq]; exact Nat.and_two_pow_sub_one_eq_mod V _
  rw [e3]
  simp only [bits, show IntKind.u64.bits = 64 from rfl, BitVec.ofInt_natCast, BitVec.toNat_and, BitVec.toNat_ofNat, ha', hb', IntKind.wrap_u64]
  rw [hand] at hlt ⊢
  omega
/-- What a round of laying begins with. -/
def LzRel (A : List ThingS) (po n N : Nat) (w0 : World) (ov bv iv : Value) (wr : World) : Prop := ∃ (k : Nat) (u : Value), k ≤ n ∧ iv = .int .i64 (k : Nat) ∧ ov = .pointer (some ⟨po, 0, none⟩) ∧ OutQ po wr u (pcs (A.take k)) ∧ Apart po u wr bv (pcs (A.take k)) ∧ Below N w0 wr
/-- What a round of taking off begins with. -/
def TzRel (A : List ThingS) (p n N : Nat) (w0 : World) (iv : Value) (wr : World) : Prop := ∃ k : Nat, k ≤ n ∧ iv = .int .i64 (k : Nat) ∧ InP p wr ⟨pcs ((A.take n).drop k), 0⟩ ∧ Below N w0 wr
end Go.Proofs.YtkahkkcbigifiaaDoor
