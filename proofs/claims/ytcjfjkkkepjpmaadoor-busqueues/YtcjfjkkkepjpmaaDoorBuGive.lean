/-
  Queues of writes that wait: the law's give.
-/
import Derived.Test.YtcjfjkkkepjpmaaDoorBuSame
import Derived.Test.YtcjfjkkkepjpmaaDoorBuOrdW
namespace Go.Proofs.YtcjfjkkkepjpmaaDoor
open Go.RowKit
set_option linter.unusedVariables false

def GAppOk (X : World) (v x v' : Value) (G : World) : Prop :=
  (Builtin.append_ #[40, 40] 40 #[v, x]).run Tryd.prog X = .ok v' G
theorem gapp_any (X : World) (B : Nat) (v : Value) (l : List Pst) (p : Pst) (s : Addr) (hown : X.ownsRow B 46 4 v l.length (postCells l)) (hs : ∀ (j : Nat) (u : Value), p.cells.toList[j]? = some u → X.cell? (s.add j) = some u)
    (hl : l.length ≤ 200) (hB : B ≤ X.heap.size) : ∃ g c G, GAppOk X v (.slice (some s) 1 1) (.slice (some ⟨g, 0, none⟩) (l.length + 1) c) G ∧ G.ownsRow B 46 4 (.slice (some ⟨g, 0, none⟩) (l.length + 1) c) (l.length + 1) (postCells (l ++ [p])) ∧ X.grownBy G v.ownBlock := by
  obtain ⟨i0, hi, hz, hsz, hby⟩ := info_parts (P := Tryd.prog) (e := 46) (z := .agg #[.int .i64 0, .int .u32 0, .int .i64 0, .int .u32 0]) (size := 4) (bytes := 32) (by kernel_rfl)
  obtain ⟨v', G, h1, h2, h3, h4, h5⟩ := run_append_own_at (P := Tryd.prog) X B 40 40 46 i0 _ 4 32 Tryd.underlying40 hi hz hsz hby rfl (by decide) v l.length (postCells l) hown s 1 1 p.cells.toList rfl hs (by intro u hu; simp [Pst.cells] at hu; rcases hu with rfl | rfl | rfl | rfl <;> rfl) (by unfold maxLen; omega) (by omega) hB
  have e : postCells l ++ p.cells.toList = postCells (l ++ [p]) := by rw [postCells_app]; simp [postCells]
  rw [e] at h2
  obtain ⟨a', c', rfl⟩ := own_slice h2
  cases a' with
  | none =>
    obtain ⟨_, ⟨_, e2⟩ | ⟨g, cap, cur, e2, _⟩⟩ := h2
    · omega
    · cases e2
  | some ad =>
    have h2' := h2
    obtain ⟨_, ⟨e2, _⟩ | ⟨g, cap, cur, e2, _⟩⟩ := h2
    · cases e2
    · cases e2
      exact ⟨g, _, G, h1, h2', h3⟩
theorem step_gapp {ops : Array Oper} {o : Oper} {a : Act} {w : World} {K : Act → World → Prop} {Q : Exit → Act → World → Prop} {E : Prop}
    (hg : o.guard = none) (s x : Operand) (hop : o.op = Op.call { callee := Callee.builtin Builtin.append, args := #[s, x], argTypes := #[40, 40] }) (hty : o.type = 40)
    (vs vx : Value) (hs : a.eval s = vs) (hx : a.eval x = vx) (v' : Value) (G : World) (h : GAppOk w vs vx v' G)
    (hK : K (a.put o.dst v') G) :
    if Region.wanted o (yielded ops a.tmps) = true then Oper.wp Tryd.prog o a w K Q else E := by
  have hw : Region.wanted o (yielded ops a.tmps) = true := by simp [Region.wanted, hg]
  rw [if_pos hw]
  have hrun : (Builtin.append_ #[40, 40] 40 #[vs, vx]).run Tryd.prog w = .ok v' G := h
  unfold Oper.wp
  simp [execOp, hop, hty, resolve, invoke, builtin, hs, hx, hrun, Result.andThen]
  exact hK

/-- The round of give: what is laid so far. -/
structure GiveAt (w wr : World) (a : Option Addr) (N cap k : Nat) (v : Value) (m : List Pst) : Prop where
  q : RowAt wr w.heap.size #[.slice a N cap] 37
  r : RowAt wr (w.heap.size + 1) #[.slice none 0 0] 42
  o : RowAt wr (w.heap.size + 1 + 1) #[v] 42
  own : wr.ownsRow (w.heap.size + 1 + 1 + 1) 46 4 v m.length (postCells m)
  len : m.length = k
  bel : Below w.heap.size w wr

theorem GiveAt.app {w wr G : World} {a : Option Addr} {N cap k g c : Nat} {v : Value} {m : List Pst} {o1 : Obj} (h : GiveAt w wr a N cap k v m) (p : Pst)
    (h2 : G.ownsRow (w.heap.size + 1 + 1 + 1) 46 4 (.slice (some ⟨g, 0, none⟩) (k + 1) c) (k + 1) (postCells (m ++ [p]))) (h3 : (wr.alloc o1).drew.grownBy G v.ownBlock) :
    RowAt G (w.heap.size + 1 + 1) #[v] 42 ∧ GiveAt w (G.setCell ⟨w.heap.size + 1 + 1, 0, none⟩ (.slice (some ⟨g, 0, none⟩) (k + 1) c)) a N cap (k + 1) (.slice (some ⟨g, 0, none⟩) (k + 1) c) (m ++ [p]) := by
  have hblk : ∀ x, x < wr.heap.size → x < w.heap.size + 1 + 1 + 1 → G.heap[x]? = (wr.alloc o1).heap[x]? := fun x hx hn => h3.block x (by show x < (wr.alloc o1).heap.size; simp; omega) (fun e => by have := (own_lt h.own e.symm).1; omega)
  have hq : RowAt G w.heap.size #[.slice a N cap] 37 := (hblk _ h.q.lt (by omega)).trans (h.q.al o1)
  have hr : RowAt G (w.heap.size + 1) #[.slice none 0 0] 42 := (hblk _ h.r.lt (by omega)).trans (h.r.al o1)
  have ho : RowAt G (w.heap.size + 1 + 1) #[v] 42 := (hblk _ h.o.lt (by omega)).trans (h.o.al o1)
  have hlen : (m ++ [p]).length = k + 1 := by rw [List.length_append, h.len]; rfl
  refine ⟨ho, { q := hq.far (by omega) _ _, r := hr.far (by omega) _ _, o := ho.put 0 _, own := ?_, len := hlen, bel := ?_ }⟩
  · rw [hlen]
    exact own_frame h2 (fun x hx => Below.heap_setCell _ _ _ _ (by have := (own_lt h2 hx).1; show x ≠ w.heap.size + 1 + 1; omega))
  · exact (((h.bel.alloc h.bel.size o1).drew).grown h3 (by have := h.bel.size; show _ ≤ (wr.alloc o1).heap.size; simp; omega) (fun x hx => by have := (own_lt h.own hx).1; omega)).setCell (p := ⟨w.heap.size + 1 + 1, 0, none⟩) (by show w.heap.size ≤ w.heap.size + 1 + 1; omega) _

set_option maxHeartbeats 1000000 in
theorem give_any (a : Option Addr) (l : List Pst) (hl : l.length ≤ 200) (cap : Nat) (hcap : l.length ≤ cap) (w : World) (hr : RQAt w a l) :
    Calls Tryd.prog 14 #[.agg #[.slice a l.length cap]] w fun e w' => ∃ a' c, e = .returned (.agg #[.slice a' l.length c]) ∧ l.length ≤ c ∧ QAt w' a' l ∧ Below w.heap.size w w' := by
  have HR := hide hr
  obtain ⟨N, hN⟩ : ∃ N, l.length = N := ⟨_, rfl⟩
  rw [hN] at hl hcap ⊢
  have HN := hide hN
  clear hr hN
  go_enter Tryd.func14, Tryd.ntmps14
  go_wp2
  go_loopw [4] (fun kv wr => ∃ (k : Nat) (v : Value), k ≤ N ∧ kv = .int .i64 (k : Nat) ∧ GiveAt w wr a N cap k v (l.take k)) (fun kv _ => N - (intOf kv).toNat)
  case atStart =>
    refine ⟨0, .slice none 0 0, Nat.zero_le _, rfl, ?_⟩
    exact { q := ((RowAt.new w w.heap.size _ _ rfl).al _).al _, r := (RowAt.new _ _ _ _ (by simp)).al _, o := RowAt.new _ _ _ _ (by simp), own := ⟨rfl, .inl ⟨rfl, rfl⟩⟩, len := rfl, bel := below_three _ _ _ _ }
  case round =>
    obtain ⟨k, v, hk, rfl, hG⟩ := hrel
    have HG := hide hG
    obtain ⟨av, cv, hv⟩ := own_slice hG.own
    rw [hG.len] at hv
    subst hv
    have d0 : wr.cell? ⟨w.heap.size, 0, none⟩ = some (.slice a N cap) := hG.q.cell 0
    have d1 : wr.cell? ⟨w.heap.size + 1 + 1, 0, none⟩ = some (.slice av k cv) := hG.o.cell 0
    by_cases hlt : k < N
    · obtain ⟨p, hp⟩ : ∃ p, l[k]? = some p := ⟨_, List.getElem?_eq_getElem (by rw [HN.out]; exact hlt)⟩
      rcases HR.out.lies with e | ⟨b, off, rfl, hpr⟩
      · rw [e] at hp; simp at hp
      obtain ⟨i0, i1, i2, i3⟩ := (hpr.bl hG.bel) k p hp
      have ht : l.take (k + 1) = l.take k ++ [p] := by rw [List.take_add_one, hp]; rfl
      obtain ⟨X, hX⟩ : ∃ X, (wr.alloc (.cells p.cells 46)).drew = X := ⟨_, rfl⟩
      obtain ⟨g, c, G, h1, h2, h3⟩ := gapp_any X (w.heap.size + 1 + 1 + 1) _ (l.take k) p ⟨wr.heap.size, 0, none⟩ (hX ▸ (hG.own.alloc _).drew) (fun j u hj => by
        rw [← hX, Addr.add_lit, Nat.zero_add, ((RowAt.new wr _ _ _ rfl).dr).cell, ← Array.getElem?_toList]; exact hj) (by rw [hG.len]; omega) (by rw [← hX]; have := hG.o.lt; show _ ≤ (wr.alloc _).heap.size; simp; omega)
      rw [hG.len] at h1 h2
      subst hX
      obtain ⟨e1, e2⟩ := hG.app p h2 h3
      rw [← ht] at e2
      have HE := hide e2
      have f0 : G.cell? ⟨w.heap.size + 1 + 1, 0, none⟩ = some (.slice av k cv) := e1.cell 0
      have f1 : G.frozen? ⟨w.heap.size + 1 + 1, 0, none⟩ = false := e1.thaw 0
      obtain ⟨dev, pa, n, v⟩ := p
      have HAP := hide h1
      have d1' : ∀ o, (wr.alloc o).cell? ⟨w.heap.size + 1 + 1, 0, none⟩ = some (.slice av k cv) := fun o => (hG.o.al o).cell 0
      clear hp hpr hG h1 h2 h3 e1 e2 ht
      simp only at i0 i1 i2 i3
      go_wp2
      go_region_law (refine step_gapp rfl _ _ rfl rfl _ _ rfl rfl _ _ HAP.out ?_)
      all_goals
        go_simp
        go_wp2
        go_roundw
        case rel => exact ⟨k + 1, _, by omega, by go_num, HE.out⟩
        case measure => simp [intOf]; omega
    · obtain rfl : k = N := by omega
      have e : l.take k = l := by rw [← HN.out, List.take_length]
      rw [e] at HG
      clear hG
      have r0 : wr.cell? ⟨w.heap.size + 1, 0, none⟩ = some (.slice none 0 0) := HG.out.r.cell 0
      have r1 : wr.frozen? ⟨w.heap.size + 1, 0, none⟩ = false := HG.out.r.thaw 0
      go_wp2
      obtain ⟨F, hF⟩ : ∃ F, wr.setCell ⟨w.heap.size + 1, 0, none⟩ (.slice av k cv) = F := ⟨_, rfl⟩
      have RF : RowAt F (w.heap.size + 1) #[.slice av k cv] 42 := hF ▸ HG.out.r.put 0 (.slice av k cv)
      have BF : Below w.heap.size w F := hF ▸ HG.out.bel.setCell (p := ⟨w.heap.size + 1, 0, none⟩) (by show w.heap.size ≤ w.heap.size + 1; omega) _
      have OF : F.ownsRow (w.heap.size + 1 + 1 + 1) 46 4 (.slice av k cv) l.length (postCells l) := hF ▸ own_frame HG.out.own (fun x hx => Below.heap_setCell _ _ _ _ (by have := (own_lt HG.out.own hx).1; show x ≠ w.heap.size + 1; omega))
      rw [hF]
      clear hF
      refine bodyPost_ret (results_cell_row Tryd.results14 _ _ (w.heap.size + 1) _ _ _ _ rfl RF Tryd.underlying42 rfl size_queue) rfl ?_
      have hok := HR.out.ok
      have hlen := HN.out
      by_cases h0 : l = []
      · refine ⟨av, cv, rfl, ?_, ⟨hok, .inl h0⟩, BF⟩
        rw [← hlen, h0]; exact Nat.zero_le _
      · obtain ⟨g, rfl, hps, hle⟩ := own_posts OF h0
        exact ⟨_, cv, rfl, hlen ▸ hle, ⟨hok, .inr ⟨g, rfl, hps⟩⟩, BF⟩
end Go.Proofs.YtcjfjkkkepjpmaaDoor
