/-
  The document's memory and the law's act as structs in blocks of their own; append to a row of one's own.
-/
import Derived.Test.YtghpjibjhaomoaaGreatDoorJMeRef1
import Derived.Test.YtghpjibjhaomoaaGreatDoorJMeOps
import Derived.Maps.AppendAt
import Derived.Deep.RegionLaw
import Derived.Deep.WholeRow
namespace Go.Proofs.YtghpjibjhaomoaaGreatDoor
open Go.RowKit
set_option linter.unusedVariables false

theorem size_R : (Tryz.prog.info? 31).map (·.size) = some 3 := by kernel_rfl
theorem size_sb : (Tryz.prog.info? 28).map (·.size) = some 1 := by kernel_rfl
theorem size_sd : (Tryz.prog.info? 29).map (·.size) = some 1 := by kernel_rfl
theorem size_int : (Tryz.prog.info? 3).map (·.size) = some 1 := by kernel_rfl
def zR : Array Value := #[.slice none 0 0, .slice none 0 0, .int .i64 0]
theorem zero_R (w : World) : (zeroValue 31).run Tryz.prog w = .ok (.agg zR) w :=
  (zero_of_info (P := Tryz.prog) (t := 31) (v := .agg zR) (n := 3) (by kernel_rfl)).1 w
theorem v_one (r : RP) (N n : Nat) : (r.v N n).all (·.oneCell') = true := by simp [RP.v, Value.oneCell']
variable {ops : Array Oper} {rest : List Oper} {dst : Option Tmp} {ty : TypeId} {pos : String} {after : Array Edge} {a : Act} {w : World} {Q : Exit → Act → World → Prop} {x y : Operand} {S : World → Prop} {K : Act → World → Prop}
theorem bx_R (M : Nat) (r : RP) (N n : Nat) (hM : w.heap.size = M) (hx : a.eval x = .agg (r.v N n))
    (k : ∀ W, RowAt W M (r.v N n) 31 → Below M w W → Hid (W.heap.size = M + 1) → wpList Tryz.prog ops Q rest (a.put dst (.pointer (some ⟨M, 0, none⟩))) W) :
    wpList Tryz.prog ops Q (⟨dst, .box 31 x, ty, pos, after, none⟩ :: rest) a w := op_box M hM (r.v N n) hx k
theorem al_R (M : Nat) (hM : w.heap.size = M)
    (k : ∀ W, RowAt W M zR 31 → Below M w W → Hid (W.heap.size = M + 1) → wpList Tryz.prog ops Q rest (a.put dst (.pointer (some ⟨M, 0, none⟩))) W) :
    wpList Tryz.prog ops Q (⟨dst, .alloc 31, ty, pos, after, none⟩ :: rest) a w := op_alloc M hM zR zero_R k
theorem ld_R (b : Nat) (r : RP) (N n : Nat) (hr : RowAt w b (r.v N n) 31) (hx : a.eval x = .pointer (some ⟨b, 0, none⟩))
    (k : wpList Tryz.prog ops Q rest (a.put dst (.agg (r.v N n))) w) : wpList Tryz.prog ops Q (⟨dst, .load 31 x, ty, pos, after, none⟩ :: rest) a w :=
  op_load b hx (r.v N n) _ hr _ Tryz.underlying31 rfl size_R k
theorem st_R (b : Nat) (old : Array Value) (r : RP) (N n : Nat) (hr : RowAt w b old 31) (ho : old.size = 3) (hx : a.eval x = .pointer (some ⟨b, 0, none⟩)) (hy : a.eval y = .agg (r.v N n))
    (k : ∀ W, RowAt W b (r.v N n) 31 → Only b w W → wpList Tryz.prog ops Q rest (a.put dst undef) W) : wpList Tryz.prog ops Q (⟨dst, .store 31 x y, ty, pos, after, none⟩ :: rest) a w :=
  op_store b hx (r.v N n) hy old _ hr size_R ho (v_one r N n) k
theorem ld_B (b : Nat) (r : RP) (N n : Nat) (hr : RowAt w b (r.v N n) 31) (hx : a.eval x = .pointer (some ⟨b, 0, none⟩))
    (k : wpList Tryz.prog ops Q rest (a.put dst (.slice (some ⟨r.gB, 0, none⟩) N r.cB)) w) : wpList Tryz.prog ops Q (⟨dst, .load 28 x, ty, pos, after, none⟩ :: rest) a w :=
  op_load_cell b 0 hx _ _ _ hr rfl _ Tryz.underlying28 rfl k
theorem ld_D (b : Nat) (r : RP) (N n : Nat) (hr : RowAt w b (r.v N n) 31) (hx : a.eval x = .pointer (some ⟨b, 1, none⟩))
    (k : wpList Tryz.prog ops Q rest (a.put dst (.slice (some ⟨r.gD, 0, none⟩) n r.cD)) w) : wpList Tryz.prog ops Q (⟨dst, .load 29 x, ty, pos, after, none⟩ :: rest) a w :=
  op_load_cell b 1 hx _ _ _ hr rfl _ Tryz.underlying29 rfl k
theorem ld_W (b : Nat) (r : RP) (N n : Nat) (hr : RowAt w b (r.v N n) 31) (hx : a.eval x = .pointer (some ⟨b, 2, none⟩))
    (k : wpList Tryz.prog ops Q rest (a.put dst (.int .i64 r.wr)) w) : wpList Tryz.prog ops Q (⟨dst, .load 3 x, ty, pos, after, none⟩ :: rest) a w :=
  op_load_cell b 2 hx _ _ _ hr rfl _ Tryz.underlying3 rfl k
theorem st_B (b : Nat) (r : RP) (N n g c : Nat) (hr : RowAt w b (r.v N n) 31) (hx : a.eval x = .pointer (some ⟨b, 0, none⟩)) (hy : a.eval y = .slice (some ⟨g, 0, none⟩) N c)
    (k : ∀ W, RowAt W b (({ r with gB := g, cB := c } : RP).v N n) 31 → Only b w W → wpList Tryz.prog ops Q rest (a.put dst undef) W) : wpList Tryz.prog ops Q (⟨dst, .store 28 x y, ty, pos, after, none⟩ :: rest) a w :=
  op_store_cell b 0 hx _ hy _ _ _ hr size_sb (by simp [RP.v]) rfl rfl k
theorem st_D (b : Nat) (r : RP) (N n g c : Nat) (hr : RowAt w b (r.v N n) 31) (hx : a.eval x = .pointer (some ⟨b, 1, none⟩)) (hy : a.eval y = .slice (some ⟨g, 0, none⟩) n c)
    (k : ∀ W, RowAt W b (({ r with gD := g, cD := c } : RP).v N n) 31 → Only b w W → wpList Tryz.prog ops Q rest (a.put dst undef) W) : wpList Tryz.prog ops Q (⟨dst, .store 29 x y, ty, pos, after, none⟩ :: rest) a w :=
  op_store_cell b 1 hx _ hy _ _ _ hr size_sd (by simp [RP.v]) rfl rfl k
theorem st_W (b : Nat) (r : RP) (N n : Nat) (z : Int) (hr : RowAt w b (r.v N n) 31) (hx : a.eval x = .pointer (some ⟨b, 2, none⟩)) (hy : a.eval y = .int .i64 z)
    (k : ∀ W, RowAt W b (({ r with wr := z } : RP).v N n) 31 → Only b w W → wpList Tryz.prog ops Q rest (a.put dst undef) W) : wpList Tryz.prog ops Q (⟨dst, .store 3 x y, ty, pos, after, none⟩ :: rest) a w :=
  op_store_cell b 2 hx _ hy _ _ _ hr size_int (by simp [RP.v]) rfl rfl k

/-- A row of one's own, as it lies. -/
theorem holds_of_own {W : World} {B n : Nat} {e : TypeId} {v : Value} {xs : List Value} {f : Nat → Value} (h : W.ownsRow B e 1 v n xs) (hn : 0 < n) (hf : ∀ j, j < n → xs[j]? = some (f j)) :
    ∃ g c, v = .slice (some ⟨g, 0, none⟩) n c ∧ HoldsAt W g n e f ∧ B ≤ g ∧ n ≤ c ∧ c ≤ maxLen := by
  obtain ⟨h1, ⟨_, h0⟩ | ⟨g, cap, cur, rfl, e2, e3, e4, e5, e6, e7⟩⟩ := h
  · omega
  · refine ⟨g, cap, rfl, ⟨cur, e3, by omega, fun j hj => ?_⟩, e2, e4, e5⟩
    rw [← hf j hj, ← e7, List.getElem?_take_of_lt (by omega), Array.getElem?_toList]
/-- What append to a row of one's own does. -/
def AppOk (t : TypeId) (X : World) (v x v' : Value) (G : World) : Prop := (Builtin.append_ #[t, t] t #[v, x]).run Tryz.prog X = .ok v' G
theorem app_bytes (X : World) (B : Nat) (v : Value) (n : Nat) (xs : List Value) (hown : X.ownsRow B 5 1 v n xs) (s : Addr) (m c : Nat) (ys : List Value) (hl : ys.length = m) (hs : ∀ (j : Nat) (u : Value), ys[j]? = some u → X.cell? (s.add j) = some u) (h1 : ∀ u ∈ ys, u.oneCell' = true)
    (hsz : n + m ≤ 100000000) (hB : B ≤ X.heap.size) : ∃ v' G, AppOk 28 X v (.slice (some s) m c) v' G ∧ G.ownsRow B 5 1 v' (n + m) (xs ++ ys) ∧ X.grownBy G v.ownBlock := by
  obtain ⟨i0, hi, hz, hs1, hby⟩ := info_parts infoByte
  obtain ⟨v', G, g1, g2, g3, _, _⟩ := run_append_own_at (P := Tryz.prog) X B 28 28 5 i0 _ 1 1 Tryz.underlying28 hi hz hs1 hby rfl (by decide) v n xs hown s m c ys (by omega) hs h1 (by unfold maxLen; omega) (by omega) hB
  exact ⟨v', G, g1, g2, g3⟩
theorem infoBool : (Tryz.prog.info? 4).map (fun i => (i.zero, i.size, i.bytes)) = some (some (.bool false), 1, 1) := by kernel_rfl
theorem app_bools (X : World) (B : Nat) (v : Value) (n : Nat) (xs : List Value) (hown : X.ownsRow B 4 1 v n xs) (s : Addr) (m c : Nat) (ys : List Value) (hl : ys.length = m) (hs : ∀ (j : Nat) (u : Value), ys[j]? = some u → X.cell? (s.add j) = some u) (h1 : ∀ u ∈ ys, u.oneCell' = true)
    (hsz : n + m ≤ 100000000) (hB : B ≤ X.heap.size) : ∃ v' G, AppOk 29 X v (.slice (some s) m c) v' G ∧ G.ownsRow B 4 1 v' (n + m) (xs ++ ys) ∧ X.grownBy G v.ownBlock := by
  obtain ⟨i0, hi, hz, hs1, hby⟩ := info_parts infoBool
  obtain ⟨v', G, g1, g2, g3, _, _⟩ := run_append_own_at (P := Tryz.prog) X B 29 29 4 i0 _ 1 1 Tryz.underlying29 hi hz hs1 hby rfl (by decide) v n xs hown s m c ys (by omega) hs h1 (by unfold maxLen; omega) (by omega) hB
  exact ⟨v', G, g1, g2, g3⟩
theorem op_app (t : TypeId) (s z : Operand) (hty : ty = t) (vs vx v' : Value) (G : World) (hs : a.eval s = vs) (hx : a.eval z = vx) (h : AppOk t w vs vx v' G)
    (hK : wpList Tryz.prog ops Q rest (a.put dst v') G) : wpList Tryz.prog ops Q (⟨dst, Op.call { callee := Callee.builtin Builtin.append, args := #[s, z], argTypes := #[t, t] }, ty, pos, after, none⟩ :: rest) a w := by
  subst hty
  refine wpList_plain rfl fun K hK' => ?_
  have hr : (Builtin.append_ #[ty, ty] ty #[vs, vx]).run Tryz.prog w = .ok v' G := h
  unfold Oper.wp execOp
  simp only [resolve, invoke, builtin, Sem.run_bind, Sem.run_pure, Result.andThen_ok, List.map_toArray, List.map_cons, List.map_nil, hs, hx, hr]
  exact hK' _ _ hK
theorem step_app {o : Oper} {E : Prop} (hg : o.guard = none) (t : TypeId) (s z : Operand) (hop : o.op = Op.call { callee := Callee.builtin Builtin.append, args := #[s, z], argTypes := #[t, t] }) (hty : o.type = t)
    (vs vx : Value) (hs : a.eval s = vs) (hx : a.eval z = vx) (v' : Value) (G : World) (h : AppOk t w vs vx v' G)
    (hK : K (a.put o.dst v') G) :
    if Region.wanted o (yielded ops a.tmps) = true then Oper.wp Tryz.prog o a w K Q else E := by
  have hw : Region.wanted o (yielded ops a.tmps) = true := by simp [Region.wanted, hg]
  rw [if_pos hw]
  have hrun : (Builtin.append_ #[t, t] t #[vs, vx]).run Tryz.prog w = .ok v' G := h
  unfold Oper.wp
  simp [execOp, hop, hty, resolve, invoke, builtin, hs, hx, hrun, Result.andThen]
  exact hK
theorem grown_below {X G : World} {row : Option Nat} (h : X.grownBy G row) {B : Nat} (hB : B ≤ X.heap.size) (hr : ∀ k, row = some k → B ≤ k) : Below B X G :=
  (Below.refl B X).grown h hB hr
end Go.Proofs.YtghpjibjhaomoaaGreatDoor
