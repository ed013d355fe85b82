/-
  A state of the control registers that is handed in by value, opened: seven words and a count.
-/
import Derived.Test.YtchlomnkjilmeaaCsProg
import Derived.ProofKit
import Derived.OpenShut
import Derived.WideShapes
namespace Go.Proofs.Ytchlomnkjilmeaa
open Go.ChangeShapes Go.WideShapes Go.ChangeAt Go.RowKit
set_option linter.unusedVariables false

theorem open_kinds {H : Type} {enc : TypeId × Value → H} {P : Program} {w : World} {base b0 : Nat} {spare : Nat → Bool} {held : Bool} {r : Reach} {t : TypeId} {fs : Array Field} {ks : List IntKind} {v : Value} {d : DataW H} {p : List MemPlace}
    (ht : P.underlying t = some (.struct fs)) (hC : P.cellsOf t = fs.size) (hf : ∀ i f, fs[i]? = some f → P.underlying f.type = some (.int (ks.getD i .i64)) ∧ P.cellsOf f.type = 1 ∧ f.offset = i)
    (hv : Value.okWide P w r b0 t v) (h : DataW.Trod enc P w base spare held t v d p) :
    ∃ cs : List Value, cs.length = fs.size ∧ v = .agg cs.toArray ∧ ∀ i (hi : i < cs.length), ∃ z, cs[i] = .int (ks.getD i .i64) z ∧ (Lit.int (ks.getD i .i64) z).wf = true := by
  simp only [Value.okWide, ht] at hv
  obtain ⟨cs, rfl, hsz, _⟩ := hv
  obtain ⟨fuel, hfu⟩ := h
  obtain ⟨xs, m, _, _, hlen, hxl, hx⟩ := DataW.trod_struct ht hfu
  simp only [Value.cells] at hlen hx
  have hl : cs.toList.length = fs.size := by simpa [hC] using hsz
  refine ⟨cs.toList, hl, rfl, fun i hi => ?_⟩
  have hi2 : i < fs.size := by omega
  obtain ⟨g1, g2, g3⟩ := hf i fs[i] (Array.getElem?_eq_getElem hi2)
  have h1 := hx i fs[i] (Array.getElem?_eq_getElem hi2)
  have hxi : i < xs.length := by omega
  rw [g2, g3, List.getElem?_eq_getElem hxi] at h1
  obtain ⟨z, e1, _, hw⟩ := DataW.trod_int g1 h1
  refine ⟨z, ?_, hw⟩
  have e2 : (cs.toList.drop i).take 1 = [cs.toList[i]] := by
    rw [List.drop_eq_getElem_cons hi]; simp
  rw [e2] at e1
  simpa using e1

theorem bounds_w {z : Int} (h : (Lit.int .u32 z).wf = true) : ∃ n : Nat, z = n ∧ n < 4294967296 := by
  have hb := bounds_u32 h
  exact ⟨z.toNat, by omega, by omega⟩
theorem bounds_c {z : Int} (h : (Lit.int .u64 z).wf = true) : ∃ n : Nat, z = n ∧ n < 18446744073709551616 := by
  have hb := bounds_u64 h
  exact ⟨z.toNat, by omega, by omega⟩

def stateK : List IntKind := [.u32, .u32, .u32, .u32, .u32, .u32, .u32, .u64]
theorem cells_state : Try.prog.cellsOf 25 = 8 := by kernel_rfl

set_option maxRecDepth 100000 in
theorem open_state {H : Type} {enc : TypeId × Value → H} {w : World} {base b0 : Nat} {spare : Nat → Bool} {held : Bool} {r : Reach} {v : Value} {d : DataW H} {p : List MemPlace}
    (hv : Value.okWide Try.prog w r b0 25 v) (h : DataW.Trod enc Try.prog w base spare held 25 v d p) :
    ∃ s : S8, s.Ok ∧ v = .agg s.cells := by
  have hu := Try.underlying25
  obtain ⟨cs, hl, rfl, hz⟩ := open_kinds (ks := stateK) hu cells_state (by
    intro i f hf
    match i, hf with
    | 0, hf => cases hf; exact ⟨Try.underlying22, by kernel_rfl, rfl⟩
    | 1, hf => cases hf; exact ⟨Try.underlying22, by kernel_rfl, rfl⟩
    | 2, hf => cases hf; exact ⟨Try.underlying22, by kernel_rfl, rfl⟩
    | 3, hf => cases hf; exact ⟨Try.underlying22, by kernel_rfl, rfl⟩
    | 4, hf => cases hf; exact ⟨Try.underlying22, by kernel_rfl, rfl⟩
    | 5, hf => cases hf; exact ⟨Try.underlying22, by kernel_rfl, rfl⟩
    | 6, hf => cases hf; exact ⟨Try.underlying22, by kernel_rfl, rfl⟩
    | 7, hf => cases hf; exact ⟨Try.underlying23, by kernel_rfl, rfl⟩
    | k + 8, hf => simp at hf) hv h
  match cs, hl with
  | [c0, c1, c2, c3, c4, c5, c6, c7], _ =>
    obtain ⟨z0, e0, k0⟩ := hz 0 (by simp)
    obtain ⟨z1, e1, k1⟩ := hz 1 (by simp)
    obtain ⟨z2, e2, k2⟩ := hz 2 (by simp)
    obtain ⟨z3, e3, k3⟩ := hz 3 (by simp)
    obtain ⟨z4, e4, k4⟩ := hz 4 (by simp)
    obtain ⟨z5, e5, k5⟩ := hz 5 (by simp)
    obtain ⟨z6, e6, k6⟩ := hz 6 (by simp)
    obtain ⟨z7, e7, k7⟩ := hz 7 (by simp)
    obtain ⟨n0, rfl, m0⟩ := bounds_w k0
    obtain ⟨n1, rfl, m1⟩ := bounds_w k1
    obtain ⟨n2, rfl, m2⟩ := bounds_w k2
    obtain ⟨n3, rfl, m3⟩ := bounds_w k3
    obtain ⟨n4, rfl, m4⟩ := bounds_w k4
    obtain ⟨n5, rfl, m5⟩ := bounds_w k5
    obtain ⟨n6, rfl, m6⟩ := bounds_w k6
    obtain ⟨n7, rfl, m7⟩ := bounds_c k7
    refine ⟨⟨n0, n1, n2, n3, n4, n5, n6, n7⟩, ⟨m0, m1, m2, m3, m4, m5, m6, m7⟩, ?_⟩
    have f0 : c0 = .int .u32 n0 := e0
    have f1 : c1 = .int .u32 n1 := e1
    have f2 : c2 = .int .u32 n2 := e2
    have f3 : c3 = .int .u32 n3 := e3
    have f4 : c4 = .int .u32 n4 := e4
    have f5 : c5 = .int .u32 n5 := e5
    have f6 : c6 = .int .u32 n6 := e6
    have f7 : c7 = .int .u64 n7 := e7
    subst f0 f1 f2 f3 f4 f5 f6 f7
    rfl
end Go.Proofs.Ytchlomnkjilmeaa
