/-
  Short forms of the moves of a walk through a region that draws its order. Of no package.
-/
import Derived.Test.YtchjhpeogdkbmaaDoorOps
import Derived.Deep.RegionHeldLaw
namespace Go.Proofs.YtchjhpeogdkbmaaDoor
open Go.RowKit
set_option linter.unusedVariables false
variable {P : Program} {md : Region.Mode} {ops : Array Oper} {Q : Exit → Act → World → Prop} {S : World → Prop}

theorem gT {α : Type _} (l : List α) (i : Nat) : l.toArray[i]? = l[i]? := List.getElem?_toArray
theorem gZ {α : Type _} (a : α) (l : List α) : (a :: l)[0]? = some a := List.getElem?_cons_zero
theorem gS {α : Type _} (a : α) (l : List α) (i : Nat) : (a :: l)[i + 1]? = l[i]? := List.getElem?_cons_succ
theorem pA {α : Type _} (l : List α) (i : Nat) (a : α) : l.toArray.setIfInBounds i a = (l.set i a).toArray := List.setIfInBounds_toArray ..
theorem pZ {α : Type _} (x a : α) (l : List α) : (x :: l).set 0 a = a :: l := List.set_cons_zero
theorem pS {α : Type _} (x a : α) (l : List α) (i : Nat) : (x :: l).set (i + 1) a = x :: l.set i a := List.set_cons_succ
/-- Operation i is taken first. -/
theorem tkO (i : Nat) (v : Value) {oi : Oper} {fuel : Nat} {listed : Array Bool} {a : Act} {w : World} (hi : ops[i]? = some oi) (hy : YieldsIf P ops S oi v a)
    (h : wpAnyH P md ops Q S fuel (listed.setIfInBounds i true) (a.put oi.dst v) w) (hS : S w := by assumption)
    (hs : Region.noSelect ops = true := by kernel_rfl) (hf : Region.free md ops listed i = true := by kernel_rfl) (hr : (Region.ready md ops listed).contains i = true := by kernel_rfl)
    (hQ : ∀ c a w, Q (.panic c) (a.put oi.dst v) w → Q (.panic c) a w := by exact fun _ _ _ h => h) : wpAnyH P md ops Q S (fuel + 1) listed a w :=
  wpAnyH_take hi hs hf hr hQ hy hS h
/-- Operation i alone may come up. -/
theorem skO (i : Nat) {o : Oper} {fuel : Nat} {listed : Array Bool} {a : Act} {w : World} (ho : ops[i]? = some o)
    (h : ∀ K' : Act → World → Prop, Shut (∀ a w, S w → (S w → wpAnyH P md ops Q S fuel (listed.setIfInBounds i true) a w) → K' a w) → if Region.wanted o (yielded ops a.tmps) = true then Oper.wp P o a w K' Q else K' (a.put o.dst undef) w)
    (hr : Region.ready md ops listed = [i] := by kernel_rfl) : wpAnyH P md ops Q S (fuel + 1) listed a w :=
  wpAnyH_ready hr (by simp) (AllReadyH.cons ho h AllReadyH.nil)
/-- What an operation yields that reads nothing. -/
theorem puO {o : Oper} {v : Value} {a : Act} (h : ∀ w, S w → (execOp a.eval o).run P w = .ok (.value v) w) (hw : Region.wanted o (yielded ops a.tmps) = true := by rfl) : YieldsIf P ops S o v a := Or.inl ⟨hw, h⟩
theorem bl1 {b1 : Nat} {c1 : Array Value} {t1 : TypeId} {w w' w0 : World} (hc : Below w.heap.size w w') (h1 : RowAt w b1 c1 t1) (hb : Below w0.heap.size w0 w) : RowAt w' b1 c1 t1 ∧ Below w0.heap.size w0 w' := ⟨h1.bl hc, below_bl rfl hb hc⟩
theorem an1 {b1 : Nat} {c1 : Array Value} {t1 : TypeId} {N m : Nat} {w w' w0 : World} (hz : Hid (w.heap.size = N)) (hc : Below N w w') (h1 : RowAt w b1 c1 t1) (hb : Below m w0 w) (hm : m ≤ N := by omega) : RowAt w' b1 c1 t1 ∧ Below m w0 w' := ⟨h1.bl (hz.out ▸ hc), hb.trans (hc.mono hm)⟩
theorem on1 {b1 : Nat} {c1 : Array Value} {t1 : TypeId} {b m : Nat} {w w' w0 : World} (ho : Only b w w') (h1 : RowAt w b1 c1 t1) (hb : Below m w0 w) (n1 : b1 ≠ b := by omega) (hm : m ≤ b := by omega) : RowAt w' b1 c1 t1 ∧ Below m w0 w' := ⟨h1.only ho n1, ho.bel _ _ hm hb⟩
theorem bl2 {b1 b2 : Nat} {c1 c2 : Array Value} {t1 t2 : TypeId} {w w' w0 : World} (hc : Below w.heap.size w w') (h1 : RowAt w b1 c1 t1) (h2 : RowAt w b2 c2 t2) (hb : Below w0.heap.size w0 w) : RowAt w' b1 c1 t1 ∧ RowAt w' b2 c2 t2 ∧ Below w0.heap.size w0 w' := ⟨h1.bl hc, h2.bl hc, below_bl rfl hb hc⟩
theorem an2 {b1 b2 : Nat} {c1 c2 : Array Value} {t1 t2 : TypeId} {N m : Nat} {w w' w0 : World} (hz : Hid (w.heap.size = N)) (hc : Below N w w') (h1 : RowAt w b1 c1 t1) (h2 : RowAt w b2 c2 t2) (hb : Below m w0 w) (hm : m ≤ N := by omega) : RowAt w' b1 c1 t1 ∧ RowAt w' b2 c2 t2 ∧ Below m w0 w' := ⟨h1.bl (hz.out ▸ hc), h2.bl (hz.out ▸ hc), hb.trans (hc.mono hm)⟩
theorem on2 {b1 b2 : Nat} {c1 c2 : Array Value} {t1 t2 : TypeId} {b m : Nat} {w w' w0 : World} (ho : Only b w w') (h1 : RowAt w b1 c1 t1) (h2 : RowAt w b2 c2 t2) (hb : Below m w0 w) (n1 : b1 ≠ b := by omega) (n2 : b2 ≠ b := by omega) (hm : m ≤ b := by omega) : RowAt w' b1 c1 t1 ∧ RowAt w' b2 c2 t2 ∧ Below m w0 w' := ⟨h1.only ho n1, h2.only ho n2, ho.bel _ _ hm hb⟩
theorem bl3 {b1 b2 b3 : Nat} {c1 c2 c3 : Array Value} {t1 t2 t3 : TypeId} {w w' w0 : World} (hc : Below w.heap.size w w') (h1 : RowAt w b1 c1 t1) (h2 : RowAt w b2 c2 t2) (h3 : RowAt w b3 c3 t3) (hb : Below w0.heap.size w0 w) : RowAt w' b1 c1 t1 ∧ RowAt w' b2 c2 t2 ∧ RowAt w' b3 c3 t3 ∧ Below w0.heap.size w0 w' := ⟨h1.bl hc, h2.bl hc, h3.bl hc, below_bl rfl hb hc⟩
theorem an3 {b1 b2 b3 : Nat} {c1 c2 c3 : Array Value} {t1 t2 t3 : TypeId} {N m : Nat} {w w' w0 : World} (hz : Hid (w.heap.size = N)) (hc : Below N w w') (h1 : RowAt w b1 c1 t1) (h2 : RowAt w b2 c2 t2) (h3 : RowAt w b3 c3 t3) (hb : Below m w0 w) (hm : m ≤ N := by omega) : RowAt w' b1 c1 t1 ∧ RowAt w' b2 c2 t2 ∧ RowAt w' b3 c3 t3 ∧ Below m w0 w' := ⟨h1.bl (hz.out ▸ hc), h2.bl (hz.out ▸ hc), h3.bl (hz.out ▸ hc), hb.trans (hc.mono hm)⟩
theorem on3 {b1 b2 b3 : Nat} {c1 c2 c3 : Array Value} {t1 t2 t3 : TypeId} {b m : Nat} {w w' w0 : World} (ho : Only b w w') (h1 : RowAt w b1 c1 t1) (h2 : RowAt w b2 c2 t2) (h3 : RowAt w b3 c3 t3) (hb : Below m w0 w) (n1 : b1 ≠ b := by omega) (n2 : b2 ≠ b := by omega) (n3 : b3 ≠ b := by omega) (hm : m ≤ b := by omega) : RowAt w' b1 c1 t1 ∧ RowAt w' b2 c2 t2 ∧ RowAt w' b3 c3 t3 ∧ Below m w0 w' := ⟨h1.only ho n1, h2.only ho n2, h3.only ho n3, ho.bel _ _ hm hb⟩
theorem bl4 {b1 b2 b3 b4 : Nat} {c1 c2 c3 c4 : Array Value} {t1 t2 t3 t4 : TypeId} {w w' w0 : World} (hc : Below w.heap.size w w') (h1 : RowAt w b1 c1 t1) (h2 : RowAt w b2 c2 t2) (h3 : RowAt w b3 c3 t3) (h4 : RowAt w b4 c4 t4) (hb : Below w0.heap.size w0 w) : RowAt w' b1 c1 t1 ∧ RowAt w' b2 c2 t2 ∧ RowAt w' b3 c3 t3 ∧ RowAt w' b4 c4 t4 ∧ Below w0.heap.size w0 w' := ⟨h1.bl hc, h2.bl hc, h3.bl hc, h4.bl hc, below_bl rfl hb hc⟩
theorem an4 {b1 b2 b3 b4 : Nat} {c1 c2 c3 c4 : Array Value} {t1 t2 t3 t4 : TypeId} {N m : Nat} {w w' w0 : World} (hz : Hid (w.heap.size = N)) (hc : Below N w w') (h1 : RowAt w b1 c1 t1) (h2 : RowAt w b2 c2 t2) (h3 : RowAt w b3 c3 t3) (h4 : RowAt w b4 c4 t4) (hb : Below m w0 w) (hm : m ≤ N := by omega) : RowAt w' b1 c1 t1 ∧ RowAt w' b2 c2 t2 ∧ RowAt w' b3 c3 t3 ∧ RowAt w' b4 c4 t4 ∧ Below m w0 w' := ⟨h1.bl (hz.out ▸ hc), h2.bl (hz.out ▸ hc), h3.bl (hz.out ▸ hc), h4.bl (hz.out ▸ hc), hb.trans (hc.mono hm)⟩
theorem on4 {b1 b2 b3 b4 : Nat} {c1 c2 c3 c4 : Array Value} {t1 t2 t3 t4 : TypeId} {b m : Nat} {w w' w0 : World} (ho : Only b w w') (h1 : RowAt w b1 c1 t1) (h2 : RowAt w b2 c2 t2) (h3 : RowAt w b3 c3 t3) (h4 : RowAt w b4 c4 t4) (hb : Below m w0 w) (n1 : b1 ≠ b := by omega) (n2 : b2 ≠ b := by omega) (n3 : b3 ≠ b := by omega) (n4 : b4 ≠ b := by omega) (hm : m ≤ b := by omega) : RowAt w' b1 c1 t1 ∧ RowAt w' b2 c2 t2 ∧ RowAt w' b3 c3 t3 ∧ RowAt w' b4 c4 t4 ∧ Below m w0 w' := ⟨h1.only ho n1, h2.only ho n2, h3.only ho n3, h4.only ho n4, ho.bel _ _ hm hb⟩
theorem bl5 {b1 b2 b3 b4 b5 : Nat} {c1 c2 c3 c4 c5 : Array Value} {t1 t2 t3 t4 t5 : TypeId} {w w' w0 : World} (hc : Below w.heap.size w w') (h1 : RowAt w b1 c1 t1) (h2 : RowAt w b2 c2 t2) (h3 : RowAt w b3 c3 t3) (h4 : RowAt w b4 c4 t4) (h5 : RowAt w b5 c5 t5) (hb : Below w0.heap.size w0 w) : RowAt w' b1 c1 t1 ∧ RowAt w' b2 c2 t2 ∧ RowAt w' b3 c3 t3 ∧ RowAt w' b4 c4 t4 ∧ RowAt w' b5 c5 t5 ∧ Below w0.heap.size w0 w' := ⟨h1.bl hc, h2.bl hc, h3.bl hc, h4.bl hc, h5.bl hc, below_bl rfl hb hc⟩
theorem an5 {b1 b2 b3 b4 b5 : Nat} {c1 c2 c3 c4 c5 : Array Value} {t1 t2 t3 t4 t5 : TypeId} {N m : Nat} {w w' w0 : World} (hz : Hid (w.heap.size = N)) (hc : Below N w w') (h1 : RowAt w b1 c1 t1) (h2 : RowAt w b2 c2 t2) (h3 : RowAt w b3 c3 t3) (h4 : RowAt w b4 c4 t4) (h5 : RowAt w b5 c5 t5) (hb : Below m w0 w) (hm : m ≤ N := by omega) : RowAt w' b1 c1 t1 ∧ RowAt w' b2 c2 t2 ∧ RowAt w' b3 c3 t3 ∧ RowAt w' b4 c4 t4 ∧ RowAt w' b5 c5 t5 ∧ Below m w0 w' := ⟨h1.bl (hz.out ▸ hc), h2.bl (hz.out ▸ hc), h3.bl (hz.out ▸ hc), h4.bl (hz.out ▸ hc), h5.bl (hz.out ▸ hc), hb.trans (hc.mono hm)⟩
theorem on5 {b1 b2 b3 b4 b5 : Nat} {c1 c2 c3 c4 c5 : Array Value} {t1 t2 t3 t4 t5 : TypeId} {b m : Nat} {w w' w0 : World} (ho : Only b w w') (h1 : RowAt w b1 c1 t1) (h2 : RowAt w b2 c2 t2) (h3 : RowAt w b3 c3 t3) (h4 : RowAt w b4 c4 t4) (h5 : RowAt w b5 c5 t5) (hb : Below m w0 w) (n1 : b1 ≠ b := by omega) (n2 : b2 ≠ b := by omega) (n3 : b3 ≠ b := by omega) (n4 : b4 ≠ b := by omega) (n5 : b5 ≠ b := by omega) (hm : m ≤ b := by omega) : RowAt w' b1 c1 t1 ∧ RowAt w' b2 c2 t2 ∧ RowAt w' b3 c3 t3 ∧ RowAt w' b4 c4 t4 ∧ RowAt w' b5 c5 t5 ∧ Below m w0 w' := ⟨h1.only ho n1, h2.only ho n2, h3.only ho n3, h4.only ho n4, h5.only ho n5, ho.bel _ _ hm hb⟩
end Go.Proofs.YtchjhpeogdkbmaaDoor
