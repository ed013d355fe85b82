/-
  mem's Harvest.
-/
import Derived.Test.YtbggkoahofnnjaaGreatDoorJR12
import Derived.Test.YtbggkoahofnnjaaGreatDoorJR4
open Go.Proofs.Tryz
set_option linter.unusedVariables false
set_option linter.unusedSimpArgs false
namespace Go.Proofs.YtbggkoahofnnjaaGreatDoor
open Go.RowKit
attribute [local go_sem ↓] Go.wp_at_zero Go.wp_at_succ
theorem RamAt.same {w w' : World} {B b P D : Nat} {m : Mem} (h : RamAt w B b P D m) (e : ∀ x, (m.owns b P D x ∨ m.z = some x) → w'.heap[x]? = w.heap[x]?) : RamAt w' B b P D m :=
  { head := (e b (.inl (.inl rfl))).trans h.head, zero := fun g hg => (by (obtain ⟨z1, z2⟩ := h.zero g hg; exact ⟨z1.of_heap (e g (.inr hg)), z2⟩)),
    pages := h.pages.of_heap (e P (.inl (.inr (.inl rfl)))), marks := h.marks.of_heap (e D (.inl (.inr (.inr (.inl rfl))))),
    bytes := fun q g hq hg => (h.bytes q g hq hg).of_heap (e g (.inl (.inr (.inr (.inr ⟨q, hq, hg⟩))))), noughts := h.noughts, low := h.low, apart := h.apart, alone := h.alone, few := h.few, caps := h.caps, room := h.room }
theorem copy_seen {w : World} {g o O N d c cp : Nat} {q f : Nat → Value} (hG : HoldsAt w g 4096 5 q) (hO : HoldsAt w O N 5 f) (hc : MinIs c N d o) (V : List Value) (hV : V = (List.range c).map fun j => q (o + j)) (h1 : ∀ j, (q j).oneCell' = true) :
    TakeOk w O N d g o c cp V := by
  subst hV
  unfold MinIs at hc
  unfold TakeOk
  have hl : ((List.range c).map fun j => q (o + j)).length = c := by simp
  have hle : c ≤ 4096 - o := by rw [hc]; exact Nat.min_le_right _ _
  have hle2 : c ≤ N - d := by rw [hc]; exact Nat.min_le_left _ _
  have := run_copy_cells (P := prog) w 60 60 3 5 O d (N - d) (N - d) ⟨g, o, none⟩ (4096 - o) (cp - o) ((List.range c).map fun j => q (o + j)) underlying60 (by kernel_rfl) (hl.trans (hc.trans (Nat.min_comm _ _)))
    (fun j v hj => by
      have hjc : j < c := by rw [← hl]; exact (List.getElem?_eq_some_iff.1 hj).1
      rw [Addr.add_lit, hG.cell (j := o + j) (by omega), ← hj, List.getElem?_map, List.getElem?_range hjc]; rfl)
    (fun j hj => by rw [hO.cell (j := d + j) (by omega)]; rfl) (fun j hj => hO.thaw (d + j))
    (fun v hv => by
      simp only [List.mem_map] at hv
      obtain ⟨x, _, rfl⟩ := hv
      exact h1 _)
  rw [this, hl]
  rfl
theorem RamAt.z_lt {w : World} {B b P D : Nat} {m : Mem} (h : RamAt w B b P D m) {x : Nat} (hz : m.z = some x) : x < w.heap.size := (h.zero x hz).1.lt
end Go.Proofs.YtbggkoahofnnjaaGreatDoor
namespace Go.Proofs.YtbggkoahofnnjaaGreatDoor
open Go.RowKit
attribute [local go_sem ↓] Go.wp_at_zero Go.wp_at_succ
def wholeB (m : Mem) (p : Nat) : List Value := (List.range 4096).map fun j => Value.int .u8 (m.dat p j : Nat)
def WholeOk (w : World) (O g so sc oc : Nat) (V : List Value) : Prop :=
    (Builtin.copy_ #[60, 60] 3 #[.slice (some ⟨O, 0, none⟩) 4096 oc, .slice (some ⟨g, so, none⟩) 4096 sc]).run prog w = .ok (.int .i64 4096) (w.setCells O 0 V)
theorem WholeOk.eq {w : World} {O g so sc oc : Nat} {V : List Value} (h : WholeOk w O g so sc oc V) :
    (Builtin.copy_ #[60, 60] 3 #[.slice (some ⟨O, 0, none⟩) 4096 oc, .slice (some ⟨g, so, none⟩) 4096 sc]).run prog w = .ok (.int .i64 4096) (w.setCells O 0 V) := h
def Mem.setp (m : Mem) (p g : Nat) (l : List Nat) : Mem := { (m.touched p g).put p 0 l with wr := m.wr + 1 }
end Go.Proofs.YtbggkoahofnnjaaGreatDoor
namespace Go.Proofs.YtbggkoahofnnjaaGreatDoor
open Go.RowKit
attribute [local go_sem ↓] Go.wp_at_zero Go.wp_at_succ
end Go.Proofs.YtbggkoahofnnjaaGreatDoor
namespace Go.Proofs.YtbggkoahofnnjaaGreatDoor
open Go.RowKit
attribute [local go_sem ↓] Go.wp_at_zero Go.wp_at_succ
def pageL (f : Nat → Nat) : List UInt8 := (List.range 4096).map fun j => UInt8.ofNat (f j)
theorem str_of_cellsE {W' : World} {b off c : Nat} {l : List UInt8} (h : ∀ j u, (cellsB l)[j]? = some u → W'.cell? ⟨b, off + j, none⟩ = some u) :
    (convert 60 9 (.slice (some ⟨b, off, none⟩) l.length c)).run prog W' = .ok (.string ⟨l.toArray⟩) W' := by
  refine run_convert_bytes_back W' _ _ 5 ⟨b, off, none⟩ c l underlying60 underlying5 underlying9 ?_
  intro j hj
  rw [Addr.add_lit]
  exact h j _ (by simp [cellsB, hj])
end Go.Proofs.YtbggkoahofnnjaaGreatDoor
namespace Go.Proofs.YtbggkoahofnnjaaGreatDoor
open Go.RowKit
attribute [local go_sem ↓] Go.wp_at_zero Go.wp_at_succ
def noB (n : Nat) : List Value := (Builtin.zeroCells #[.bool false] n).toList
def Mem.clean (m : Mem) : Mem := { m with dirty := fun _ => false }
def ClearOk (w : World) (ty : TypeId) (D n dc : Nat) : Prop := (Builtin.clear_ #[61] ty #[.slice (some ⟨D, 0, none⟩) n dc]).run prog w = .ok (.tuple #[]) (w.setCells D 0 (noB n))
theorem ClearOk.eq {w : World} {ty : TypeId} {D n dc : Nat} (h : ClearOk w ty D n dc) : (Builtin.clear_ #[61] ty #[.slice (some ⟨D, 0, none⟩) n dc]).run prog w = .ok (.tuple #[]) (w.setCells D 0 (noB n)) := h
theorem own_far {W W' : World} {B e sz n : Nat} {v : Value} {xs : List Value} (h : W.ownsRow B e sz v n xs) (hh : ∀ g, B ≤ g → W'.heap[g]? = W.heap[g]?) : W'.ownsRow B e sz v n xs := by
  obtain ⟨h1, h2 | ⟨g, cap, cur, e1, e2, e3, e4⟩⟩ := h
  · exact ⟨h1, Or.inl h2⟩
  · exact ⟨h1, Or.inr ⟨g, cap, cur, e1, e2, (hh g e2).trans e3, e4⟩⟩
end Go.Proofs.YtbggkoahofnnjaaGreatDoor
