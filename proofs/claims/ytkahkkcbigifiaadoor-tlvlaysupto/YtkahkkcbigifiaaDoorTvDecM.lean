/-
  Files taken off, step by step; cuts of bytes, as steps.
-/
import Derived.Test.YtkahkkcbigifiaaDoorTvOwn
import Derived.Test.YtkahkkcbigifiaaDoorSmApp
import Derived.Test.YtkahkkcbigifiaaDoorSmBy
namespace Go.Proofs.YtkahkkcbigifiaaDoor
open Go.RowKit
set_option linter.unusedVariables false
set_option linter.unusedSimpArgs false

def comb (L : List Sct) : Nat ⊕ (List Sct × List Nat) → Nat ⊕ (List Sct × List Nat)
  | .inl e => .inl e
  | .inr (l, r) => .inr (L ++ l, r)
def lastT (L : List Sct) : Option Nat := L.getLast?.map Sct.tag
theorem lastT_snoc (L : List Sct) (s : Sct) : lastT (L ++ [s]) = some s.tag := by simp [lastT]
theorem sub_take (b : List Nat) (E A i m : Nat) (h : A + i + m ≤ E) : (((b.take E).drop A).drop i).take m = (b.drop (A + i)).take m := by
  rw [List.drop_drop, List.drop_take, List.take_take]
  congr 1
  omega
theorem dec_short (j : Nat) (p : Option Nat) (r : List Nat) (h : r.length < 12) : decS (j + 1) p r = .inl 12 := by rw [decS, if_pos h]
theorem dec_end (j : Nat) (p : Option Nat) (r : List Nat) (h : ¬ r.length < 12) (h2 : r.length - 12 < numL ((r.drop 4).take 4)) : decS (j + 1) p r = .inl 12 := by rw [decS, if_neg h, if_pos h2]
theorem dec_sum (j : Nat) (p : Option Nat) (r : List Nat) (h : ¬ r.length < 12) (h2 : ¬ r.length - 12 < numL ((r.drop 4).take 4)) (h3 : okL (r.take (12 + numL ((r.drop 4).take 4))) = false) : decS (j + 1) p r = .inl 11 := by
  rw [decS, if_neg h, if_neg h2]
  simp only [h3, if_true]
theorem dec_ord (j : Nat) (p : Option Nat) (r : List Nat) (h : ¬ r.length < 12) (h2 : ¬ r.length - 12 < numL ((r.drop 4).take 4)) (h3 : okL (r.take (12 + numL ((r.drop 4).take 4))) = true) (h4 : upF p (numL (r.take 4)) = false) : decS (j + 1) p r = .inl 31 := by
  rw [decS, if_neg h, if_neg h2]
  simp only [h3, h4, if_true, Bool.true_eq_false, if_false]
theorem dec_go (L : List Sct) (j : Nat) (p : Option Nat) (r : List Nat) (h : ¬ r.length < 12) (h2 : ¬ r.length - 12 < numL ((r.drop 4).take 4)) (h3 : okL (r.take (12 + numL ((r.drop 4).take 4))) = true) (h4 : upF p (numL (r.take 4)) = true) :
    comb L (decS (j + 1) p r) = comb (L ++ [⟨numL (r.take 4), (r.drop 8).take (numL ((r.drop 4).take 4))⟩]) (decS j (some (numL (r.take 4))) (r.drop (12 + numL ((r.drop 4).take 4)))) := by
  rw [decS, if_neg h, if_neg h2]
  simp only [h3, h4, Bool.true_eq_false, if_false]
  cases decS j (some (numL (r.take 4))) (r.drop (12 + numL ((r.drop 4).take 4))) with
  | inl e => rfl
  | inr q => simp [comb]
theorem lastT_at (L : List Sct) (q : Nat) (h : L.length = q + 1) : lastT L = some (L[q]'(by omega)).tag := by
  unfold lastT
  have e : L.getLast? = L[q]? := by rw [List.getLast?_eq_getElem?, show L.length - 1 = q by omega]
  rw [e, List.getElem?_eq_getElem (by omega)]
  rfl
def decE (b : List Nat) : Nat := match decL b with
  | .inl e => e
  | .inr _ => 0
def decV (b : List Nat) : Nat := match decL b with
  | .inl _ => 0
  | .inr (v, _) => v
def decM (b : List Nat) : List Sct := match decL b with
  | .inl _ => []
  | .inr (_, l) => l
variable {P : Program} {ops : Array Oper} {rest : List Oper} {dst : Option Tmp} {ty t t2 : TypeId} {pos : String} {after : Array Edge} {a : Act} {w : World} {Q : Exit → Act → World → Prop} {K : Act → World → Prop} {x y z : Operand} {gd : Option (Nat × Bool)}
theorem g_mid {B : Nat} {w0 : World} {v : Value} {l : List Nat} (h : Rd B w0 v l) (lo hi : Nat) (hlo : lo ≤ hi) (hn : hi ≤ l.length) (ht : P.underlying t = some (.slice (P.elem t))) (hs : ∀ w, (sizeOf (P.elem t)).run P w = .ok 1 w) (hx : a.eval x = v) (hy : a.eval y = .int .i64 (lo : Nat)) (hz : a.eval z = .int .i64 (hi : Nat)) (hw : Region.wanted ⟨dst, .slice t x (some y) (some z) none, ty, pos, after, gd⟩ (yielded ops a.tmps) = true)
    (k : wpList P ops Q rest (a.put dst (sFrom (sTo v hi) lo)) w) : wpList P ops Q (⟨dst, .slice t x (some y) (some z) none, ty, pos, after, gd⟩ :: rest) a w :=
  BigFrame.wpList_want hw fun K hK => by
    unfold Oper.wp
    rw [ex_mid h hlo hn ht hs hx hy hz, Oper.upon_value]
    exact hK _ _ k
theorem g_midE {B : Nat} {w0 : World} {v v' : Value} {l : List Nat} (h : Rd B w0 v l) (lo hi : Nat) (he : sFrom (sTo v hi) lo = v') (hlo : lo ≤ hi) (hn : hi ≤ l.length) (ht : P.underlying t = some (.slice (P.elem t))) (hs : ∀ w, (sizeOf (P.elem t)).run P w = .ok 1 w) (hx : a.eval x = v) (hy : a.eval y = .int .i64 (lo : Nat)) (hz : a.eval z = .int .i64 (hi : Nat)) (hw : Region.wanted ⟨dst, .slice t x (some y) (some z) none, ty, pos, after, gd⟩ (yielded ops a.tmps) = true)
    (k : wpList P ops Q rest (a.put dst v') w) : wpList P ops Q (⟨dst, .slice t x (some y) (some z) none, ty, pos, after, gd⟩ :: rest) a w := by
  subst he
  exact g_mid h lo hi hlo hn ht hs hx hy hz hw k
theorem g_str {B : Nat} {w : World} {v : Value} {l : List Nat} (h : Rd B w v l) {ts : TypeId} (e : TypeId) (ht : P.underlying t = some (.slice e)) (he : P.underlying e = some (.int .u8)) (hd : P.underlying ts = some .string) (hx : a.eval x = v) (hw : Region.wanted ⟨dst, .convert t ts x, ty, pos, after, gd⟩ (yielded ops a.tmps) = true)
    (k : wpList P ops Q rest (a.put dst (.string (strB l))) w) : wpList P ops Q (⟨dst, .convert t ts x, ty, pos, after, gd⟩ :: rest) a w :=
  BigFrame.wpList_want hw fun K hK => by
    unfold Oper.wp
    rw [ex_str h e ht he hd hx, Oper.upon_value]
    exact hK _ _ k
theorem g_to {B : Nat} {w0 : World} {v : Value} {l : List Nat} (h : Rd B w0 v l) (n : Nat) (hn : n ≤ l.length) (ht : P.underlying t = some (.slice (P.elem t))) (hs : ∀ w, (sizeOf (P.elem t)).run P w = .ok 1 w) (hx : a.eval x = v) (hy : a.eval y = .int .i64 (n : Nat)) (hw : Region.wanted ⟨dst, .slice t x none (some y) none, ty, pos, after, gd⟩ (yielded ops a.tmps) = true)
    (k : wpList P ops Q rest (a.put dst (sTo v n)) w) : wpList P ops Q (⟨dst, .slice t x none (some y) none, ty, pos, after, gd⟩ :: rest) a w :=
  BigFrame.wpList_want hw fun K hK => by
    unfold Oper.wp
    rw [ex_to h hn ht hs hx hy, Oper.upon_value]
    exact hK _ _ k
theorem g_frm {B : Nat} {w0 : World} {v : Value} {l : List Nat} (h : Rd B w0 v l) (n : Nat) (hn : n ≤ l.length) (ht : P.underlying t = some (.slice (P.elem t))) (hs : ∀ w, (sizeOf (P.elem t)).run P w = .ok 1 w) (hx : a.eval x = v) (hy : a.eval y = .int .i64 (n : Nat)) (hw : Region.wanted ⟨dst, .slice t x (some y) none none, ty, pos, after, gd⟩ (yielded ops a.tmps) = true)
    (k : wpList P ops Q rest (a.put dst (sFrom v n)) w) : wpList P ops Q (⟨dst, .slice t x (some y) none none, ty, pos, after, gd⟩ :: rest) a w :=
  BigFrame.wpList_want hw fun K hK => by
    unfold Oper.wp
    rw [ex_frm h hn ht hs hx hy, Oper.upon_value]
    exact hK _ _ k
def pnS : ByteArray := ⟨#[80, 78, 67, 69]⟩
theorem pn_str : strB [80, 78, 67, 69] = pnS := rfl
theorem pn_list : pnS.toList = [80, 78, 67, 69] := by rw [ByteArray.toList_eq]; rfl
theorem pn_neq {l : List Nat} (h : ∀ c ∈ l, c < 256) : ((strB l).toList == [80, 78, 67, 69]) = decide (l = [80, 78, 67, 69]) := by
  rw [← pn_list, ← pn_str]
  exact strB_inj h pn_lt
theorem newc (w : World) (cs : Array Value) (t : TypeId) (j : Nat) (v : Value) (h : cs[j]? = some v) : (w.alloc (.cells cs t)).cell? ⟨w.heap.size, j, none⟩ = some v := ((RowAt.new w _ cs t rfl).cell j).trans h
theorem dec_err {b : List Nat} {e : Nat} (h : decL b = .inl e) : decE b = e ∧ decV b = 0 ∧ decM b = [] := by
  unfold decE decV decM
  rw [h]
  exact ⟨rfl, rfl, rfl⟩
theorem dec_fine {b : List Nat} {v : Nat} {L : List Sct} (h : decL b = .inr (v, L)) : decE b = 0 ∧ decV b = v ∧ decM b = L := by
  unfold decE decV decM
  rw [h]
  exact ⟨rfl, rfl, rfl⟩
end Go.Proofs.YtkahkkcbigifiaaDoor
