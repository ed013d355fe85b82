/-
  Posts appended: what append answers where there is no room.
-/
import Derived.Test.YtcjfjkkkepjpmaaDoorBuCheck
import Derived.Deep.AppendSrc
import Derived.Laws.AppendOwn
import Derived.Deep.RegionLaw
namespace Go.Proofs.YtcjfjkkkepjpmaaDoor
open Go.RowKit
set_option linter.unusedVariables false

def postCells (l : List Pst) : List Value := l.flatMap fun p => p.cells.toList
theorem postCells_len (l : List Pst) : (postCells l).length = l.length * 4 := by
  induction l with
  | nil => rfl
  | cons x t ih => simp [postCells, List.flatMap_cons, Pst.cells] at ih ⊢; omega
theorem postCells_app (l m : List Pst) : postCells (l ++ m) = postCells l ++ postCells m := by simp [postCells]
theorem postCells_one (l : List Pst) : ∀ u ∈ postCells l, u.oneCell' = true := by
  intro u hu
  obtain ⟨p, _, hp⟩ := List.mem_flatMap.1 hu
  simp [Pst.cells] at hp
  rcases hp with rfl | rfl | rfl | rfl <;> rfl
theorem postCells_at : ∀ (l : List Pst) (j : Nat) (p : Pst), l[j]? = some p → (postCells l)[j * 4]? = some (.int .i64 p.dev) ∧ (postCells l)[j * 4 + 1]? = some (.int .u32 (p.at' : Nat)) ∧ (postCells l)[j * 4 + 2]? = some (.int .i64 p.n) ∧ (postCells l)[j * 4 + 3]? = some (.int .u32 (p.v : Nat))
  | [], j, p, h => by simp at h
  | x :: t, 0, p, h => by
    simp at h
    subst h
    exact ⟨rfl, rfl, rfl, rfl⟩
  | x :: t, j + 1, p, h => by
    have ih := postCells_at t j p (by simpa using h)
    have e : ∀ k, (postCells (x :: t))[(j + 1) * 4 + k]? = (postCells t)[j * 4 + k]? := fun k => by
      have : postCells (x :: t) = x.cells.toList ++ postCells t := rfl
      rw [this, List.getElem?_append_right (by simp [Pst.cells]; omega)]
      congr 1
      simp [Pst.cells]
      omega
    have e0 := e 0
    simp only [Nat.add_zero] at e0
    rw [e0, e 1, e 2, e 3]
    exact ih
/-- The other way round. -/
theorem posts_cells {g : Nat} {l : List Pst} {w : World} (h : PostsAt g l w) : ∀ (j : Nat) (u : Value), (postCells l)[j]? = some u → w.cell? ⟨g, j, none⟩ = some u := by
  intro j u hj
  have hlt : j < (postCells l).length := (List.getElem?_eq_some_iff.1 hj).1
  rw [postCells_len] at hlt
  have hq : j / 4 < l.length := by omega
  obtain ⟨h0, h1, h2, h3⟩ := h (j / 4) _ (List.getElem?_eq_getElem hq)
  obtain ⟨k0, k1, k2, k3⟩ := postCells_at l (j / 4) _ (List.getElem?_eq_getElem hq)
  obtain e | e | e | e : j = j / 4 * 4 ∨ j = j / 4 * 4 + 1 ∨ j = j / 4 * 4 + 2 ∨ j = j / 4 * 4 + 3 := by omega
  · rw [e] at hj ⊢; rw [k0] at hj; rw [h0]; exact hj
  · rw [e] at hj ⊢; rw [k1] at hj; rw [h1]; exact hj
  · rw [e] at hj ⊢; rw [k2] at hj; rw [h2]; exact hj
  · rw [e] at hj ⊢; rw [k3] at hj; rw [h3]; exact hj
/-- A row that begins with posts. -/
theorem posts_of_row {g : Nat} {l : List Pst} {w : World} {cs : Array Value} (h : RowAt w g cs 46) (hc : ∀ (j : Nat) (u : Value), (postCells l)[j]? = some u → cs[j]? = some u) : PostsAt g l w := by
  intro j p hp
  obtain ⟨k0, k1, k2, k3⟩ := postCells_at l j p hp
  rw [h.cell, h.cell, h.cell, h.cell]
  exact ⟨hc _ _ k0, hc _ _ k1, hc _ _ k2, hc _ _ k3⟩

def AppOk (X : World) (v x : Value) (n G : Nat) (cs : Array Value) : Prop :=
  (Builtin.append_ #[40, 40] 40 #[v, x]).run Tryd.prog X = .ok (.slice (some ⟨X.heap.size, 0, none⟩) n G) (X.drew.alloc (.cells cs 46))
theorem AppOk.eq {X : World} {v x : Value} {n G : Nat} {cs : Array Value} (h : AppOk X v x n G cs) : (Builtin.append_ #[40, 40] 40 #[v, x]).run Tryd.prog X = .ok (.slice (some ⟨X.heap.size, 0, none⟩) n G) (X.drew.alloc (.cells cs 46)) := h

theorem cap_small : ∀ N, N < 9 → ∀ c, c ≤ N → Builtin.nextslicecap (N + 1) c * 32 ≤ 281474976710656 := by decide

theorem app_any (X : World) (a : Option Addr) (l : List Pst) (c : Nat) (s : Addr) (m sc : Nat) (new : List Pst) (hnew : new.length = m) (hm : 0 < m) (hl : l.length + m ≤ 9) (hc : c ≤ l.length) (hcl : l.length ≤ c)
    (hold : l = [] ∨ ∃ g, a = some ⟨g, 0, none⟩ ∧ PostsAt g l X) (hsrc : ∀ (j : Nat) (u : Value), (postCells new)[j]? = some u → X.cell? (s.add j) = some u) :
    ∃ G cs, AppOk X (.slice a l.length c) (.slice (some s) m sc) (l.length + m) G cs ∧ l.length + m ≤ G ∧ ∀ (j : Nat) (u : Value), (postCells (l ++ new))[j]? = some u → cs[j]? = some u := by
  obtain ⟨i0, hi, hz, hs, hby⟩ := info_parts (P := Tryd.prog) (e := 46) (z := .agg #[.int .i64 0, .int .u32 0, .int .i64 0, .int .u32 0]) (size := 4) (bytes := 32) (by kernel_rfl)
  have hf : (Builtin.firstCells i0.size l.length (.slice a l.length c)).run Tryd.prog X.drew = .ok (postCells l).toArray X.drew := by
    rw [hs]
    rcases hold with rfl | ⟨g, rfl, hp⟩
    · cases a with
      | none => exact run_firstCells_none _ _ _ _ _
      | some ad => exact run_firstCells_some _ 4 0 ad 0 c [] rfl (fun j u h => by simp at h)
    · refine run_firstCells_some _ 4 _ ⟨g, 0, none⟩ _ _ (postCells l) (postCells_len l) (fun j u h => ?_)
      rw [Addr.add_lit, Nat.zero_add]
      exact posts_cells hp j u h
  have hS : Src Tryd.prog i0.size 40 (.slice (some s) m sc) m (postCells new) X := Src.ofSlice X Tryd.underlying40 s m sc (postCells new) (by rw [postCells_len, hnew, hs]) hsrc (postCells_one new)
  have hN : Builtin.nextslicecap (l.length + m) c * i0.bytes ≤ 281474976710656 := by
    rw [hby]
    have := cap_small (l.length + m - 1) (by omega) c (by omega)
    rwa [show l.length + m - 1 + 1 = l.length + m by omega] at this
  refine ⟨_, _, run_append_grow_src (P := Tryd.prog) X 40 40 40 46 i0 _ Tryd.underlying40 hi hz a l.length c (postCells l) hf _ m (postCells new) hS (by omega) (by omega) hN, grownCap_ge _ _ _ _, fun j u h => ?_⟩
  have hlt : j < (postCells l ++ postCells new).length := by rw [← postCells_app]; exact (List.getElem?_eq_some_iff.1 h).1
  rw [Array.getElem?_append_left (by simpa using hlt)]
  rw [List.getElem?_toArray, ← postCells_app]
  exact h

/-- The append as one step of a region that draws. -/
theorem step_app {ops : Array Oper} {o : Oper} {a : Act} {w : World} {K : Act → World → Prop} {Q : Exit → Act → World → Prop} {E : Prop}
    (hg : o.guard = none) (s x : Operand) (hop : o.op = Op.call { callee := Callee.builtin Builtin.append, args := #[s, x], argTypes := #[40, 40] }) (hty : o.type = 40)
    (vs vx : Value) (hs : a.eval s = vs) (hx : a.eval x = vx) (n G : Nat) (cs : Array Value) (h : AppOk w vs vx n G cs)
    (hK : K (a.put o.dst (.slice (some ⟨w.heap.size, 0, none⟩) n G)) (w.drew.alloc (.cells cs 46))) :
    if Region.wanted o (yielded ops a.tmps) = true then Oper.wp Tryd.prog o a w K Q else E := by
  have hw : Region.wanted o (yielded ops a.tmps) = true := by simp [Region.wanted, hg]
  rw [if_pos hw]
  have hrun := h.eq
  unfold Oper.wp
  simp [execOp, hop, hty, resolve, invoke, builtin, hs, hx, hrun, Result.andThen]
  exact hK
end Go.Proofs.YtcjfjkkkepjpmaaDoor
