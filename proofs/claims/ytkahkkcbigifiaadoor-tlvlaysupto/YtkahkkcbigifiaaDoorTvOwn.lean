/-
  Lists of sections of one's own; what append makes of them.
-/
import Derived.Test.YtkahkkcbigifiaaDoorTvSec
namespace Go.Proofs.YtkahkkcbigifiaaDoor
open Go.RowKit
set_option linter.unusedVariables false
set_option linter.unusedSimpArgs false

def secCells : List Sct → List Value → List Value
  | s :: L, u :: us => .int .u32 (s.tag : Nat) :: u :: secCells L us
  | _, _ => []
theorem secCells_len : ∀ (L : List Sct) (us : List Value), us.length = L.length → (secCells L us).length = L.length * 2
  | [], [], _ => rfl
  | [], _ :: _, h => by simp at h
  | _ :: _, [], h => by simp at h
  | s :: L, u :: us, h => by
    have := secCells_len L us (by simpa using h)
    simp only [secCells, List.length_cons, this]
    omega
theorem secCells_app : ∀ (L : List Sct) (us : List Value) (s : Sct) (u : Value), us.length = L.length → secCells (L ++ [s]) (us ++ [u]) = secCells L us ++ [.int .u32 (s.tag : Nat), u]
  | [], [], _, _, _ => rfl
  | [], _ :: _, _, _, h => by simp at h
  | _ :: _, [], _, _, h => by simp at h
  | t :: L, v :: us, s, u, h => by
    have := secCells_app L us s u (by simpa using h)
    simp only [List.cons_append, secCells, this]
theorem secCells_at : ∀ (L : List Sct) (us : List Value) (hl : us.length = L.length) (j : Nat) (hj : j < L.length), (secCells L us)[j * 2]? = some (.int .u32 (L[j].tag : Nat)) ∧ (secCells L us)[j * 2 + 1]? = some us[j]
  | [], _, _, j, hj => by simp at hj
  | _ :: _, [], h, _, _ => by simp at h
  | s :: L, u :: us, h, 0, _ => ⟨rfl, rfl⟩
  | s :: L, u :: us, h, j + 1, hj => by
    have := secCells_at L us (by simpa using h) j (by simpa using hj)
    have e : (j + 1) * 2 = j * 2 + 1 + 1 := by omega
    rw [e]
    simp only [secCells, List.getElem?_cons_succ, List.getElem_cons_succ]
    exact this
/-- Sections in a block of one's own from N on, of type e; their bytes in blocks below C. -/
def OwnSecs (N C : Nat) (e : TypeId) (w : World) (v : Value) (L : List Sct) : Prop :=
  (∀ s ∈ L, s.tag < 4294967296) ∧ ∃ us : List Value, us.length = L.length ∧ (∀ j (h : j < us.length) (h' : j < L.length), Rd C w us[j] L[j].b) ∧ w.ownsRow N e 2 v L.length (secCells L us)
theorem OwnSecs.nil (N C : Nat) (e : TypeId) (w : World) : OwnSecs N C e w (.slice none 0 0) [] := ⟨(fun _ h => nomatch h), [], rfl, (fun j h => absurd h (by simp)), World.ownsRow_nil w N e 2⟩
theorem OwnSecs.bl {N C : Nat} {e : TypeId} {w W : World} {v : Value} {L : List Sct} (h : OwnSecs N C e w v L) (hb : Below w.heap.size w W) (hC : C ≤ w.heap.size) : OwnSecs N C e W v L := by
  obtain ⟨h0, us, h1, h2, h3⟩ := h
  refine ⟨h0, us, h1, fun j hj hj' => (h2 j hj hj').bel (hb.mono hC), h3.1, ?_⟩
  rcases h3.2 with hn | ⟨g, cap, cur, rfl, h4, h5, hrest⟩
  · exact .inl hn
  · exact .inr ⟨g, cap, cur, rfl, h4, (hb.block g (Array.getElem?_eq_some_iff.1 h5).1).trans h5, hrest⟩
theorem OwnSecs.secs {N C : Nat} {e : TypeId} {w : World} {v : Value} {L : List Sct} (h : OwnSecs N C e w v L) (hC : C ≤ w.heap.size) : Secs w.heap.size w v L := by
  obtain ⟨h0, us, h1, h2, h3, h4⟩ := h
  refine ⟨h0, ?_⟩
  rcases h4 with ⟨rfl, hn⟩ | ⟨g, cap, cur, rfl, h5, h6, h7, h8, h9, h10⟩
  · exact ⟨none, 0, by rw [hn], by omega, by omega, fun h => by omega⟩
  · refine ⟨_, cap, rfl, h7, by simpa [maxLen] using h8, fun _ => ⟨g, 0, rfl, (Array.getElem?_eq_some_iff.1 h6).1, fun j hj => ?_⟩⟩
    have hr : RowAt w g cur e := h6
    obtain ⟨c1, c2⟩ := secCells_at L us h1 j hj
    rw [← h10, List.getElem?_take] at c1 c2
    rw [if_pos (by omega)] at c1 c2
    refine ⟨?_, us[j], ?_, (h2 j (by omega) hj).mono hC⟩
    · rw [hr.cell, Nat.zero_add]; simpa using c1
    · rw [hr.cell, Nat.zero_add]; simpa using c2
theorem OwnSecs.form {N C : Nat} {e : TypeId} {w : World} {v : Value} {L : List Sct} (h : OwnSecs N C e w v L) : ∃ ad cap, v = .slice ad L.length cap ∧ L.length ≤ cap ∧ cap ≤ 9223372036854775807 := by
  obtain ⟨h0, us, h1, h2, h3, h4⟩ := h
  rcases h4 with ⟨rfl, hn⟩ | ⟨g, cap, cur, rfl, h5, h6, h7, h8, _⟩
  · exact ⟨none, 0, by rw [hn], by omega, by omega⟩
  · exact ⟨_, cap, rfl, h7, by simpa [maxLen] using h8⟩
theorem OwnSecs.lt {N C : Nat} {e : TypeId} {w : World} {v : Value} {L : List Sct} (h : OwnSecs N C e w v L) : ∀ k, v.ownBlock = some k → N ≤ k := fun k hk => by
  obtain ⟨h0, us, h1, h2, h3⟩ := h
  exact (h3.lt k hk).1
variable {P : Program} {ops : Array Oper} {rest : List Oper} {dst : Option Tmp} {ty t t2 : TypeId} {pos : String} {after : Array Edge} {a : Act} {w : World} {Q : Exit → Act → World → Prop} {K : Act → World → Prop} {x y : Operand} {gd : Option (Nat × Bool)}
theorem oneC_slice {B : Nat} {w : World} {u : Value} {l : List Nat} (h : Rd B w u l) : u.oneCell' = true := by
  obtain ⟨a, cap, rfl, _⟩ := h.form
  rfl
/-- append of one section. -/
theorem wp_app2 {N C : Nat} {e : TypeId} (i : TypeInfo) (z : Value) (ht : P.underlying t = some (.slice e)) (hi : P.info? e = some i) (hz : i.zero = some z) (hs : i.size = 2) (hb : i.bytes ≤ 64) (hzs : z.cells.size = 2) {v : Value} {L : List Sct} (s : Sct) {u : Value} (b sc : Nat) (ho : OwnSecs N C e w v L) (hst : s.tag < 4294967296) (hru : Rd C w u s.b) (hn : L.length ≤ 100000) (hN : N ≤ w.heap.size) (hC : C ≤ N)
    (hc0 : w.cell? ⟨b, 0, none⟩ = some (.int .u32 (s.tag : Nat))) (hc1 : w.cell? ⟨b, 1, none⟩ = some u) (hx : a.eval x = v) (hy : a.eval y = .slice (some ⟨b, 0, none⟩) 1 sc)
    (k : ∀ W v', OwnSecs N C e W v' (L ++ [s]) → w.grownBy W v.ownBlock → K (a.put dst v') W) :
    Oper.wp P ⟨dst, .call { callee := .builtin .append, args := #[x, y], argTypes := #[t, t] }, t, pos, after, none⟩ a w K Q := by
  obtain ⟨h0, us, h1, h2, h3⟩ := ho
  obtain ⟨v', W, a1, a2, a3, a4⟩ := run_append_own (P := P) w N t t e i z 2 i.bytes ht hi hz hs rfl hzs (by decide) v L.length (secCells L us) h3 ⟨b, 0, none⟩ 1 sc [.int .u32 (s.tag : Nat), u] rfl (fun j q hj => by
    rcases j with _ | _ | j
    · simp at hj; subst hj; rw [Addr.add_lit]; exact hc0
    · simp at hj; subst hj; rw [Addr.add_lit]; exact hc1
    · simp at hj) (fun q hq => by
    simp at hq
    rcases hq with rfl | rfl
    · rfl
    · exact oneC_slice hru) (by simp only [maxLen]; omega) (Nat.le_trans (Nat.mul_le_mul (show L.length + 1 ≤ 100001 by omega) hb) (by decide)) hN
  unfold Oper.wp
  have : (execOp a.eval ⟨dst, .call { callee := .builtin .append, args := #[x, y], argTypes := #[t, t] }, t, pos, after, none⟩).run P w = .ok (.value v') W := by
    simp [execOp, resolve, invoke, builtin, hx, hy, a1, Result.andThen]
  rw [this, Oper.upon_value]
  refine k W v' ⟨fun q hq => ?_, us ++ [u], by simp [h1], fun j hj hj' => ?_, by rw [List.length_append, List.length_singleton, secCells_app L us s u h1]; exact a2⟩ a3
  · rcases List.mem_append.1 hq with hq | hq
    · exact h0 q hq
    · rw [List.mem_singleton.1 hq]; exact hst
  · have hgb : Below N w W := (Below.refl N w).grown a3 hN fun q hq => (h3.lt q hq).1
    by_cases hj2 : j < us.length
    · have := (h2 j hj2 (by omega)).bel (hgb.mono hC)
      rw [List.getElem_append_left hj2, List.getElem_append_left (by omega)]
      exact this
    · have hj3 : j = us.length := by simp at hj; omega
      subst hj3
      have := hru.bel (hgb.mono hC)
      simp only [List.getElem_append_right (Nat.le_refl _), Nat.sub_self, List.getElem_singleton]
      simp only [h1, List.getElem_append_right (Nat.le_refl _), Nat.sub_self, List.getElem_singleton]
      exact this
theorem op_app2 {N C : Nat} {e : TypeId} (i : TypeInfo) (z : Value) (ht : P.underlying t = some (.slice e)) (hi : P.info? e = some i) (hz : i.zero = some z) (hs : i.size = 2) (hb : i.bytes ≤ 64) (hzs : z.cells.size = 2) {v : Value} {L : List Sct} (s : Sct) {u : Value} (b sc : Nat) (ho : OwnSecs N C e w v L) (hst : s.tag < 4294967296) (hru : Rd C w u s.b) (hn : L.length ≤ 100000) (hN : N ≤ w.heap.size) (hC : C ≤ N)
    (hc0 : w.cell? ⟨b, 0, none⟩ = some (.int .u32 (s.tag : Nat))) (hc1 : w.cell? ⟨b, 1, none⟩ = some u) (hx : a.eval x = v) (hy : a.eval y = .slice (some ⟨b, 0, none⟩) 1 sc)
    (k : ∀ W v', OwnSecs N C e W v' (L ++ [s]) → w.grownBy W v.ownBlock → wpList P ops Q rest (a.put dst v') W) :
    wpList P ops Q (⟨dst, .call { callee := .builtin .append, args := #[x, y], argTypes := #[t, t] }, t, pos, after, none⟩ :: rest) a w :=
  wpList_plain rfl fun K hK => wp_app2 i z ht hi hz hs hb hzs s b sc ho hst hru hn hN hC hc0 hc1 hx hy fun W v' h1 h2 => hK _ _ (k W v' h1 h2)
end Go.Proofs.YtkahkkcbigifiaaDoor
