/-
  BusOrder: the lists of what went in and what came out, and the queue, where they lie.
-/
import Derived.Test.YtcjfjkkkepjpmaaDoorBuPop
import Derived.Test.YtcjfjkkkepjpmaaDoorBuWalk
import Derived.Maps.AppendAt
namespace Go.Proofs.YtcjfjkkkepjpmaaDoor
open Go.RowKit
set_option linter.unusedVariables false

theorem own_frame {W W' : World} {b e sz n : Nat} {v : Value} {xs : List Value} (h : W.ownsRow b e sz v n xs) (hf : ∀ x, v.ownBlock = some x → W'.heap[x]? = W.heap[x]?) : W'.ownsRow b e sz v n xs := by
  obtain ⟨h1, h2 | ⟨g, cap, cur, e1, e2, e3, e4⟩⟩ := h
  · exact ⟨h1, .inl h2⟩
  · subst e1
    exact ⟨h1, .inr ⟨g, cap, cur, rfl, e2, (hf g rfl).trans e3, e4⟩⟩
theorem own_lt {W : World} {b e sz n x : Nat} {v : Value} {xs : List Value} (h : W.ownsRow b e sz v n xs) (hx : v.ownBlock = some x) : b ≤ x ∧ x < W.heap.size := by
  obtain ⟨h1, ⟨rfl, _⟩ | ⟨g, cap, cur, rfl, e2, e3, e4⟩⟩ := h
  · cases hx
  · cases hx
    exact ⟨e2, (Array.getElem?_eq_some_iff.1 e3).1⟩
theorem posts_frame {g : Nat} {l : List Pst} {W W' : World} (h : PostsAt g l W) (hf : W'.heap[g]? = W.heap[g]?) : PostsAt g l W' := fun j p hp => by
  have e : ∀ k, W'.cell? ⟨g, k, none⟩ = W.cell? ⟨g, k, none⟩ := fun k => by simp only [World.cell?, hf]
  obtain ⟨h0, h1, h2, h3⟩ := h j p hp
  exact ⟨(e _).trans h0, (e _).trans h1, (e _).trans h2, (e _).trans h3⟩

structure OrdAt (b5 : Nat) (W : World) (vi vo : Value) (a : Option Addr) (cap : Nat) (ins outs l : List Pst) : Prop where
  chk : checkQ l = true
  ok : ∀ p ∈ ins, p.Ok
  okq : ∀ p ∈ l, p.Ok
  oi : W.ownsRow (b5 + 1) 46 4 vi ins.length (postCells ins)
  oo : W.ownsRow (b5 + 1) 46 4 vo outs.length (postCells outs)
  q : RowAt W b5 #[.slice a l.length cap] 42
  lies : l = [] ∨ ∃ g, a = some ⟨g, 0, none⟩ ∧ PostsAt g l W
  hc : l.length ≤ cap
  aio : ∀ x, vi.ownBlock = some x → vo.ownBlock ≠ some x
  aiq : l ≠ [] → ∀ x, vi.ownBlock = some x → ∀ o s, a ≠ some ⟨x, o, s⟩
  aoq : l ≠ [] → ∀ x, vo.ownBlock = some x → ∀ o s, a ≠ some ⟨x, o, s⟩
  anq : l ≠ [] → ∀ o s, a ≠ some ⟨b5, o, s⟩

theorem OrdAt.qat {b5 : Nat} {W : World} {vi vo : Value} {a : Option Addr} {cap : Nat} {ins outs l : List Pst} (h : OrdAt b5 W vi vo a cap ins outs l) : QAt W a l := ⟨h.okq, h.lies⟩
theorem OrdAt.eight {b5 : Nat} {W : World} {vi vo : Value} {a : Option Addr} {cap : Nat} {ins outs l : List Pst} (h : OrdAt b5 W vi vo a cap ins outs l) : l.length ≤ 8 := by
  have hc := h.chk
  unfold checkQ at hc
  rw [Bool.and_eq_true] at hc
  exact of_decide_eq_true hc.1
theorem OrdAt.frame {b5 : Nat} {W W' : World} {vi vo : Value} {a : Option Addr} {cap : Nat} {ins outs l : List Pst} (h : OrdAt b5 W vi vo a cap ins outs l)
    (h5 : W'.heap[b5]? = W.heap[b5]?) (hi : ∀ x, vi.ownBlock = some x → W'.heap[x]? = W.heap[x]?) (ho : ∀ x, vo.ownBlock = some x → W'.heap[x]? = W.heap[x]?) (ha : l ≠ [] → ∀ x o s, a = some ⟨x, o, s⟩ → W'.heap[x]? = W.heap[x]?) : OrdAt b5 W' vi vo a cap ins outs l :=
  { chk := h.chk, ok := h.ok, okq := h.okq, oi := own_frame h.oi hi, oo := own_frame h.oo ho, q := h5.trans h.q, hc := h.hc, aio := h.aio, aiq := h.aiq, aoq := h.aoq, anq := h.anq,
    lies := by
      rcases h.lies with e | ⟨g, e, hp⟩
      · exact .inl e
      · by_cases hl : l = []
        · exact .inl hl
        · exact .inr ⟨g, e, posts_frame hp (ha hl g 0 none e)⟩ }
theorem posts_lt {g : Nat} {l : List Pst} {W : World} (h : PostsAt g l W) (hl : l ≠ []) : g < W.heap.size := by
  cases l with
  | nil => exact absurd rfl hl
  | cons p t => exact block_lt_of_cell (h 0 p rfl).1
theorem OrdAt.alt {b5 : Nat} {W : World} {vi vo : Value} {a : Option Addr} {cap : Nat} {ins outs l : List Pst} (h : OrdAt b5 W vi vo a cap ins outs l) (hl : l ≠ []) {x o : Nat} {s : Option Nat} (e : a = some ⟨x, o, s⟩) : x < W.heap.size := by
  rcases h.lies with e' | ⟨g, e', hp⟩
  · exact absurd e' hl
  · rw [e] at e'
    injection e' with e'
    injection e' with e'
    rw [e']
    exact posts_lt hp hl
theorem OrdAt.bl {b5 : Nat} {W W' : World} {vi vo : Value} {a : Option Addr} {cap : Nat} {ins outs l : List Pst} (h : OrdAt b5 W vi vo a cap ins outs l) (hb : Below W.heap.size W W') : OrdAt b5 W' vi vo a cap ins outs l :=
  h.frame (hb.block _ h.q.lt) (fun x hx => hb.block _ (own_lt h.oi hx).2) (fun x hx => hb.block _ (own_lt h.oo hx).2) (fun hl x o s e => hb.block _ (h.alt hl e))

/-- Another list in the queue: it is new, or empty. -/
theorem OrdAt.setq {b5 : Nat} {W0 W : World} {vi vo : Value} {a a' : Option Addr} {cap c' : Nat} {ins outs l l' : List Pst} (h0 : OrdAt b5 W0 vi vo a cap ins outs l) (h : OrdAt b5 W vi vo a cap ins outs l)
    (hk : checkQ l' = true) (hq : QAt W a' l') (hc : l'.length ≤ c') (hfr : ∀ g o s, a' = some ⟨g, o, s⟩ → W0.heap.size ≤ g) :
    OrdAt b5 (W.setCell ⟨b5, 0, none⟩ (.slice a' l'.length c')) vi vo a' c' ins outs l' := by
  have hne : ∀ x, vi.ownBlock = some x → x ≠ b5 := fun x hx => by have := (own_lt h.oi hx).1; omega
  have hno : ∀ x, vo.ownBlock = some x → x ≠ b5 := fun x hx => by have := (own_lt h.oo hx).1; omega
  have hb5 := h0.q.lt
  exact { chk := hk, ok := h.ok, okq := hq.ok, oi := own_frame h.oi (fun x hx => Below.heap_setCell _ _ _ _ (hne x hx)), oo := own_frame h.oo (fun x hx => Below.heap_setCell _ _ _ _ (hno x hx)), q := h.q.put 0 _, hc := hc, aio := h.aio,
          aiq := fun _ x hx o s e => by have h1 := (own_lt h0.oi hx).2; have h2 := hfr x o s e; omega,
          aoq := fun _ x hx o s e => by have h1 := (own_lt h0.oo hx).2; have h2 := hfr x o s e; omega,
          anq := fun _ o s e => by have h2 := hfr b5 o s e; omega,
          lies := by
            rcases hq.lies with e | ⟨g, e, hp⟩
            · exact .inl e
            · exact .inr ⟨g, e, posts_frame hp (Below.heap_setCell _ _ _ _ (by have := hfr g 0 none e; show g ≠ b5; omega))⟩ }
theorem OrdAt.appI {b5 : Nat} {W W' : World} {vi vo vi' : Value} {a : Option Addr} {cap : Nat} {ins outs l : List Pst} (h : OrdAt b5 W vi vo a cap ins outs l) (p : Pst) (hp : p.Ok)
    (hown : W'.ownsRow (b5 + 1) 46 4 vi' (ins.length + 1) (postCells ins ++ p.cells.toList)) (hg : W.grownBy W' vi.ownBlock) (hat : vi'.ownBlock = vi.ownBlock ∨ vi'.ownBlock = some W.heap.size) : OrdAt b5 W' vi' vo a cap (ins ++ [p]) outs l := by
  have hblk : ∀ x, x < W.heap.size → some x ≠ vi.ownBlock → W'.heap[x]? = W.heap[x]? := fun x hx hn => hg.block x hx hn
  exact { chk := h.chk, okq := h.okq, hc := h.hc,
          ok := fun q hq => by
            rcases List.mem_append.1 hq with hq | hq
            · exact h.ok q hq
            · rw [List.mem_singleton.1 hq]; exact hp
          oi := by rw [List.length_append, postCells_app]; simpa [postCells] using hown
          oo := own_frame h.oo (fun x hx => hblk x (own_lt h.oo hx).2 (fun e => h.aio x e.symm hx))
          q := (hblk b5 h.q.lt (fun e => by have := (own_lt h.oi e.symm).1; omega)).trans h.q
          aio := fun x hx hy => by
            rcases hat with e | e
            · rw [e] at hx; exact h.aio x hx hy
            · rw [e] at hx; have := (own_lt h.oo hy).2; injection hx with hx; omega
          aiq := fun hl x hx o s e => by
            rcases hat with e' | e'
            · rw [e'] at hx; exact h.aiq hl x hx o s e
            · rw [e'] at hx; have := h.alt hl e; injection hx with hx; omega
          aoq := h.aoq
          anq := h.anq
          lies := by
            rcases h.lies with e | ⟨g, e, hp'⟩
            · exact .inl e
            · by_cases hl : l = []
              · exact .inl hl
              · exact .inr ⟨g, e, posts_frame hp' (hblk g (posts_lt hp' hl) (fun e' => h.aiq hl g e'.symm 0 none e))⟩ }
theorem OrdAt.appO {b5 : Nat} {W W' : World} {vi vo vo' : Value} {a : Option Addr} {cap : Nat} {ins outs l : List Pst} (h : OrdAt b5 W vi vo a cap ins outs l) (p : Pst)
    (hown : W'.ownsRow (b5 + 1) 46 4 vo' (outs.length + 1) (postCells outs ++ p.cells.toList)) (hg : W.grownBy W' vo.ownBlock) (hat : vo'.ownBlock = vo.ownBlock ∨ vo'.ownBlock = some W.heap.size) : OrdAt b5 W' vi vo' a cap ins (outs ++ [p]) l := by
  have hblk : ∀ x, x < W.heap.size → some x ≠ vo.ownBlock → W'.heap[x]? = W.heap[x]? := fun x hx hn => hg.block x hx hn
  exact { chk := h.chk, okq := h.okq, hc := h.hc, ok := h.ok
          oo := by rw [List.length_append, postCells_app]; simpa [postCells] using hown
          oi := own_frame h.oi (fun x hx => hblk x (own_lt h.oi hx).2 (fun e => h.aio x hx e.symm))
          q := (hblk b5 h.q.lt (fun e => by have := (own_lt h.oo e.symm).1; omega)).trans h.q
          aio := fun x hx hy => by
            rcases hat with e | e
            · rw [e] at hy; exact h.aio x hx hy
            · rw [e] at hy; have := (own_lt h.oi hx).2; injection hy with hy; omega
          aiq := h.aiq
          aoq := fun hl x hx o s e => by
            rcases hat with e' | e'
            · rw [e'] at hx; exact h.aoq hl x hx o s e
            · rw [e'] at hx; have := h.alt hl e; injection hx with hx; omega
          anq := h.anq
          lies := by
            rcases h.lies with e | ⟨g, e, hp'⟩
            · exact .inl e
            · by_cases hl : l = []
              · exact .inl hl
              · exact .inr ⟨g, e, posts_frame hp' (hblk g (posts_lt hp' hl) (fun e' => h.aoq hl g e'.symm 0 none e))⟩ }
end Go.Proofs.YtcjfjkkkepjpmaaDoor
