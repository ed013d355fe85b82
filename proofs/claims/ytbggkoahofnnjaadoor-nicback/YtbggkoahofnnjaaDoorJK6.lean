/-
  The document's memory as it lies, and what of it is only read: Load, Read, Page, Digest.
-/
import Derived.Test.YtbggkoahofnnjaaDoorJK5
import Derived.BigQuiet
import Derived.Deep.CutRange
import Derived.Deep.QuietTactic
import Derived.Deep.AppendSrc
import Derived.Lib.SliceRun
import Derived.Deep.DrawnRows
import Derived.Test.YtbggkoahofnnjaaDoorJK1
import Derived.Laws.BytesArg
namespace Go.Proofs.YtbggkoahofnnjaaDoor
open Go.RowKit
set_option linter.unusedVariables false
attribute [local go_sem ↓] Go.wp_at_zero Go.wp_at_succ

/-- The one's blocks are not the other's. -/
structure Off (m : Mem) (b P D : Nat) (k : Mem) (c Q E : Nat) : Prop where
  no : ∀ x, m.owns b P D x → ¬ (k.owns c Q E x ∨ k.z = some x)
theorem RamAt.other {w w' : World} {B b P D c Q E : Nat} {m k : Mem} (h : RamAt w B c Q E k) (ho : Off m b P D k c Q E) (hk : Kept B w w' (m.owns b P D)) : RamAt w' B c Q E k :=
  h.same (fun x hx => hk.other x (hx.elim (fun h1 => h.owned h1) (fun h1 => h.z_lt h1)) (fun h1 => ho.no x h1 hx))
/-- Behind a look at the one, or at the other, they are apart still. -/
theorem Off.left {b P D c Q E : Nat} {m m' k : Mem} (h : Off m b P D k c Q E) (hl : Looked m m') : Off m' b P D k c Q E := ⟨fun x hx => h.no x (hl.owns.1 hx)⟩
end Go.Proofs.YtbggkoahofnnjaaDoor
namespace Go.Proofs.YtbggkoahofnnjaaDoor
open Go.RowKit
set_option linter.unusedVariables false
attribute [local go_sem ↓] Go.wp_at_zero Go.wp_at_succ

/-- The number of the error of Load and Store. -/
theorem check_any (b P n a : Nat) (k : Int) (ha : a < 4294967296) (hn : n ≤ 16384) (w : World) (hP : PagesAt w b P n) :
    Calls Tryd.prog 21 #[.pointer (some ⟨b, 0, none⟩), .int .u32 a, .int .i64 k] w fun e w' => e = .returned (errM (numE a k n)) ∧ w' = w := by
  by_cases h : k = 1 ∨ k = 2 ∨ k = 4
  · obtain ⟨j, rfl⟩ : ∃ j : Nat, k = j := ⟨k.toNat, by omega⟩
    exact check_wide b P n a j (by omega) ha hn w hP
  · have hE : errM (numE a k n) = .iface 59 (.int .i64 21) := by
      unfold numE; rw [if_pos (by omega)]; rfl
    rw [hE]
    exact check_width b a k (by omega) (by omega) (by omega) w
theorem errM_some {c : Int} (h : c ≠ 0) : errM c = .iface 59 (.int .i64 c) := by unfold errM; rw [if_neg h]
set_option maxHeartbeats 600000 in
theorem load_bad (b P n a : Nat) (k : Int) (ha : a < 4294967296) (hn : n ≤ 16384) (w : World) (hP : PagesAt w b P n) (hk : numE a k n ≠ 0) :
    Calls Tryd.prog 57 #[.pointer (some ⟨b, 0, none⟩), .int .u32 a, .int .i64 k] w fun e w' => e = .returned (.tuple #[.int .u32 0, .iface 59 (.int .i64 (numE a k n))]) ∧ w' = w := by
  have HK := hide (check_any b P n a k ha hn w hP)
  rw [errM_some hk] at HK
  generalize numE a k n = c at *
  clear hP
  go_enter Tryd.func57, Tryd.ntmps57
  go_wp2_with (first | (go_at_call 21; refine HK.out.mono ?_; rintro e w1 ⟨rfl, rfl⟩))
  go_ret2
  exact ⟨rfl, rfl⟩
set_option maxHeartbeats 600000 in
theorem store_bad (b P n a : Nat) (k : Int) (v : Value) (ha : a < 4294967296) (hn : n ≤ 16384) (w : World) (hP : PagesAt w b P n) (hk : numE a k n ≠ 0) :
    Calls Tryd.prog 8 #[.pointer (some ⟨b, 0, none⟩), .int .u32 a, .int .i64 k, v] w fun e w' => e = .returned (.iface 59 (.int .i64 (numE a k n))) ∧ w' = w := by
  have HK := hide (check_any b P n a k ha hn w hP)
  rw [errM_some hk] at HK
  generalize numE a k n = c at *
  clear hP
  go_enter Tryd.func8, Tryd.ntmps8
  go_wp2_with (first | (go_at_call 21; refine HK.out.mono ?_; rintro e w1 ⟨rfl, rfl⟩))
  go_ret
  exact ⟨rfl, rfl⟩
set_option maxHeartbeats 1000000 in
theorem load_all {w : World} {B b P D : Nat} {m : Mem} (h : RamAt w B b P D m) (hB : B ≤ w.heap.size) (a k : Nat) (ha : a < 4294967296) (hk : k = 1 ∨ k = 2 ∨ k = 4) (hal : a % k = 0) (hin : a + k ≤ m.n * 4096) (hby : ∀ o, o < 4096 → m.dat (a / 4096) o < 256) :
    Calls Tryd.prog 57 #[.pointer (some ⟨b, 0, none⟩), .int .u32 a, .int .i64 k] w fun e w' => e = .returned (.tuple #[.int .u32 (getN (fun j => UInt8.ofNat (m.dat (a / 4096) j)) (a % 4096) k : Nat), .nilIface]) ∧
      (∃ m', Looked m m' ∧ RamAt w' B b P D m' ∧ (m'.z = m.z ∨ ∃ x, m'.z = some x ∧ w.heap.size ≤ x)) ∧ Kept B w w' (m.owns b P D) := by
  have HK := hide (check_wide b P m.n a k hk ha h.few w h.pagesAt)
  rw [numE_ok hk hal hin] at HK
  obtain ⟨p, hp⟩ : ∃ p, p = a / 4096 := ⟨_, rfl⟩
  obtain ⟨o, ho⟩ : ∃ o, o = a % 4096 := ⟨_, rfl⟩
  have HSd := hide (split_any a ha)
  rw [← hp, ← ho] at HSd
  rw [← hp] at hby
  rw [← hp, ← ho]
  have hfew := h.few
  have hpk : p < m.n := by omega
  have hpl : p < 16384 := by omega
  have ho9 : o < 4096 := by omega
  have hk4 : k ≤ 4 := by omega
  have HL := hide (look_any h hB hpk)
  have hcp0 := (h.caps p hpk).1
  have hcp9 := (h.caps p hpk).2.1
  unfold maxLen at hcp9
  have HG : Hid (∀ w' g, HoldsAt w' g 4096 5 (fun o => .int .u8 (m.dat p o : Nat)) → Calls Tryd.prog 68 #[.slice (some ⟨g, 0, none⟩) 4096 (m.cap p), .int .i64 o, .int .i64 k] w' fun e W' => e = .returned (.tuple #[.int .u32 (getN (fun j => UInt8.ofNat (m.dat p j)) o k : Nat), .nilIface]) ∧ Below w'.heap.size w' W') := by
    refine hide (fun w' g hbt => ?_)
    refine get_any g 0 4096 (m.cap p) (fun j => UInt8.ofNat (m.dat p j)) o k hk ?_ ?_ (by omega) (by omega) (by omega) w' hbt.lt (fun j hj => ?_)
    · rcases hk with rfl | rfl | rfl <;> omega
    · rcases hk with rfl | rfl | rfl <;> omega
    · rw [Nat.zero_add, hbt.cell hj]
      have := hby j hj
      rw [show (UInt8.ofNat (m.dat p j)).toNat = m.dat p j by simp; omega]
  generalize getN (fun j => UInt8.ofNat (m.dat p j)) o k = v at *
  clear h hp ho hby hal
  go_enter Tryd.func57, Tryd.ntmps57
  go_wp2_with (first | (go_at_call 21; refine HK.out.mono ?_; rintro e w1 ⟨rfl, rfl⟩) | (go_at_call 37; refine (HSd.out _).mono ?_; rintro e w2 ⟨rfl, rfl⟩) | (go_at_call 67; refine HL.out.mono ?_; rintro e w3 ⟨g, m2, rfl, hx1, hx2, hx3, hx4, hx5, hx6⟩; have HL3 := hide hx1; have HM3 := hide hx2; have HG3 := hide hx3; have HK3 := hide hx4; have HZ3 := hide hx6; clear hx1 hx2 hx3 hx4 hx5 hx6) | (go_at_call 68; refine (HG.out _ _ HG3.out).mono ?_; rintro e w4 ⟨rfl, hx4⟩; have HB4 := hide hx4; clear hx4))
  go_ret2
  exact ⟨rfl, ⟨m2, HL3.out, HM3.out.bl HB4.out, HZ3.out⟩, HK3.out.trans (Kept.of HB4.out (Nat.le_trans hB HK3.out.size))⟩
end Go.Proofs.YtbggkoahofnnjaaDoor
namespace Go.Proofs.YtbggkoahofnnjaaDoor
open Go.RowKit
set_option linter.unusedVariables false
attribute [local go_sem ↓] Go.wp_at_zero Go.wp_at_succ

/-- The values of a row. -/
def rowL (f : Nat → Value) (n : Nat) : List Value := (List.range n).map f
/-- What append of a row to none makes. -/
def TakenOk (w : World) (t e b g n c C : Nat) (O : Obj) : Prop :=
    (Builtin.append_ #[t, t] t #[.slice (some ⟨b, 0, none⟩) 0 0, .slice (some ⟨g, 0, none⟩) n c]).run Tryd.prog w = .ok (.slice (some ⟨w.heap.size, 0, none⟩) n C) (w.drew.alloc O)
theorem TakenOk.eq {w : World} {t e b g n c C : Nat} {O : Obj} (h : TakenOk w t e b g n c C O) :
    (Builtin.append_ #[t, t] t #[.slice (some ⟨b, 0, none⟩) 0 0, .slice (some ⟨g, 0, none⟩) n c]).run Tryd.prog w = .ok (.slice (some ⟨w.heap.size, 0, none⟩) n C) (w.drew.alloc O) := h
end Go.Proofs.YtbggkoahofnnjaaDoor
namespace Go.Proofs.YtbggkoahofnnjaaDoor
open Go.RowKit
set_option linter.unusedVariables false
attribute [local go_sem ↓] Go.wp_at_zero Go.wp_at_succ

theorem RamAt.lower {w : World} {B B' b P D : Nat} {m : Mem} (h : RamAt w B' b P D m) (hB : B ≤ B') : RamAt w B b P D m := by
  obtain ⟨l1, l2, l3, l4⟩ := h.low
  exact { head := h.head, zero := fun g hg => (by (obtain ⟨z1, z2, z3⟩ := h.zero g hg; exact ⟨z1, Nat.le_trans hB z2, z3⟩)), pages := h.pages, marks := h.marks, bytes := h.bytes, noughts := h.noughts,
          low := ⟨Nat.le_trans hB l1, Nat.le_trans hB l2, Nat.le_trans hB l3, fun p g hp hg => Nat.le_trans hB (l4 p g hp hg)⟩, apart := h.apart, alone := h.alone, few := h.few, caps := h.caps, room := h.room }

/-- What Clone has made when i pages are over. -/
structure Cloned (m k : Mem) (i : Nat) : Prop where
  n : k.n = m.n
  dirty : k.dirty = m.dirty
  z : k.z = none
  dat : ∀ p o, p < i → k.dat p o = m.dat p o
  rest : ∀ p, i ≤ p → k.blk p = none

end Go.Proofs.YtbggkoahofnnjaaDoor
namespace Go.Proofs.YtbggkoahofnnjaaDoor
open Go.RowKit
set_option linter.unusedVariables false
attribute [local go_sem ↓] Go.wp_at_zero Go.wp_at_succ

/-- Where its bytes and marks lie, and its count. -/
structure RP where
  gB : Nat
  cB : Nat
  gD : Nat
  cD : Nat
  wr : Int
def RP.v (r : RP) (N n : Nat) : Array Value := #[.slice (some ⟨r.gB, 0, none⟩) N r.cB, .slice (some ⟨r.gD, 0, none⟩) n r.cD, .int .i64 r.wr]
structure RefAt (w : World) (N n : Nat) (f : Nat → Nat) (r : RP) : Prop where
  bytes : HoldsAt w r.gB N 5 (fun x => .int .u8 (f x : Nat))
  marks : ∃ d : Nat → Bool, HoldsAt w r.gD n 4 (fun p => .bool (d p))
  small : ∀ x, f x < 256
  capB : N ≤ r.cB ∧ r.cB ≤ maxLen
  capD : n ≤ r.cD ∧ r.cD ≤ maxLen
  few : 0 < n ∧ n ≤ 16384 ∧ N = 4096 * n
/-- Its blocks. -/
def RP.owns (r : RP) (x : Nat) : Prop := x = r.gB ∨ x = r.gD
theorem RefAt.same {w w' : World} {N n : Nat} {f : Nat → Nat} {r : RP} (h : RefAt w N n f r) (e : ∀ x, r.owns x → w'.heap[x]? = w.heap[x]?) : RefAt w' N n f r :=
  { bytes := h.bytes.of_heap (e _ (.inl rfl)), marks := by (obtain ⟨d, hd⟩ := h.marks; exact ⟨d, hd.of_heap (e _ (.inr rfl))⟩), small := h.small, capB := h.capB, capD := h.capD, few := h.few }
theorem RefAt.lt {w : World} {N n : Nat} {f : Nat → Nat} {r : RP} (h : RefAt w N n f r) {x : Nat} (hx : r.owns x) : x < w.heap.size := by
  rcases hx with rfl | rfl
  · exact h.bytes.lt
  · obtain ⟨d, hd⟩ := h.marks; exact hd.lt
theorem RefAt.bl {w w' : World} {N n : Nat} {f : Nat → Nat} {r : RP} (h : RefAt w N n f r) (hb : Below w.heap.size w w') : RefAt w' N n f r :=
  h.same (fun x hx => hb.block x (h.lt hx))
theorem RefAt.al {w : World} {N n : Nat} {f : Nat → Nat} {r : RP} (h : RefAt w N n f r) (o : Obj) : RefAt (w.alloc o) N n f r := h.bl (below_one w o)
theorem RefAt.congr {w : World} {N n : Nat} {f g : Nat → Nat} {r : RP} (h : RefAt w N n f r) (e : ∀ x, x < N → f x = g x) (hg : ∀ x, g x < 256) : RefAt w N n g r :=
  { bytes := h.bytes.congr (fun j hj => by rw [e j hj]), marks := h.marks, small := hg, capB := h.capB, capD := h.capD, few := h.few }

/-- A slice of bytes that lies in a block, or none: as a string it is some bytes. -/
def Strs (w : World) (v : Value) : Prop := ∃ s : ByteArray, (convert 22 9 v).run Tryd.prog w = .ok (.string s) w
theorem conv_row {w : World} {g o l c : Nat} {f : Nat → Nat} (hf : ∀ j, f j < 256) (h : ∀ j, j < l → w.cell? ⟨g, o + j, none⟩ = some (.int .u8 (f j : Nat))) :
    (convert 22 9 (.slice (some ⟨g, o, none⟩) l c)).run Tryd.prog w = .ok (.string ⟨((List.range l).map fun j => UInt8.ofNat (f j)).toArray⟩) w := by
  have hl : ((List.range l).map fun j => UInt8.ofNat (f j)).length = l := by simp
  have := str_of_cellsE (l := (List.range l).map fun j => UInt8.ofNat (f j)) (W' := w) (b := g) (off := o) (c := c) (fun x u hu => by
    have hx : x < l := by
      have := (List.getElem?_eq_some_iff.1 hu).1
      simpa [cellsB] using this
    unfold cellsB at hu
    rw [List.getElem?_map, List.getElem?_map, List.getElem?_range hx] at hu
    have := Option.some.inj hu
    rw [← this, h x hx]
    show _ = some (Value.int .u8 (((UInt8.ofNat (f x)).toNat : Nat) : Int))
    rw [UInt8.toNat_ofNat', Nat.mod_eq_of_lt (hf x)])
  rw [hl] at this
  exact this
end Go.Proofs.YtbggkoahofnnjaaDoor
