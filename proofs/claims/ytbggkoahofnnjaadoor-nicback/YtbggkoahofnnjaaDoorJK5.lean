/-
  The law's sure.
-/
import Derived.Test.YtbggkoahofnnjaaDoorJK4
import Derived.Test.YtbggkoahofnnjaaDoorJK1
import Derived.OwnWalk
import Derived.WalkSmall
import Derived.Laws.CopyOwn
import Derived.Deep.AppendSrc
import Derived.Test.YtbggkoahofnnjaaDoorJK3
namespace Go.Proofs.YtbggkoahofnnjaaDoor
open Go.RowKit
set_option linter.unusedVariables false

theorem infoByte : (Tryd.prog.info? 5).map (fun i => (i.zero, i.size, i.bytes)) = some (some (.int .u8 0), 1, 1) := by kernel_rfl
theorem sizeByte : (Tryd.prog.info? 5).map (·.size) = some 1 := by kernel_rfl

def cellsB (l : List UInt8) : List Value := l.map fun b => Value.int .u8 (b.toNat : Int)
theorem cellsB_length (l : List UInt8) : (cellsB l).length = l.length := by simp [cellsB]
theorem cellsB_one (l : List UInt8) : ∀ u ∈ cellsB l, u.oneCell' = true := by
  intro u hu
  obtain ⟨b, _, rfl⟩ := List.mem_map.1 hu
  rfl
theorem cellsB_set (l : List UInt8) (j : Nat) (b : UInt8) : cellsB (l.set j b) = (cellsB l).set j (.int .u8 (b.toNat : Int)) := by simp [cellsB, List.map_set]

/-- The bytes behind k stores of a number's lowest bytes. -/
def withTo (l : List UInt8) (at_ v : Nat) : Nat → List UInt8
  | 0 => l
  | k + 1 => (withTo l at_ v k).set (at_ + k) (UInt8.ofNat (v / 256 ^ k % 256))
theorem withTo_length (l : List UInt8) (at_ v k : Nat) : (withTo l at_ v k).length = l.length := by
  induction k with
  | zero => rfl
  | succ k ih => simp [withTo, ih]

theorem row_of {w : World} {base : Nat} {e : TypeId} {g N : Nat} {xs : List Value} (h : w.ownsRow base e 1 (.slice (some ⟨g, 0, none⟩) N N) N xs) :
    ∃ cur : List Value, w.heap[g]? = some (.cells cur.toArray e (0, 0)) ∧ cur.length = N ∧ base ≤ g := by
  rcases h.2 with ⟨h', _⟩ | ⟨g', cap', cur, h', hb, hg, _, _, hsz, _⟩
  · simp at h'
  · simp only [Value.slice.injEq, Option.some.injEq, Addr.mk.injEq, and_true, true_and] at h'
    obtain ⟨rfl, rfl⟩ := h'
    exact ⟨cur.toList, by simpa using hg, by simpa using hsz, hb⟩

theorem own_of_row {w : World} {base : Nat} {e : TypeId} {g N : Nat} {cur : List Value} (hg : w.heap[g]? = some (.cells cur.toArray e (0, 0))) (hl : cur.length = N) (hb : base ≤ g) (hN : N ≤ maxLen) :
    w.ownsRow base e 1 (.slice (some ⟨g, 0, none⟩) N N) N cur :=
  ⟨by omega, .inr ⟨g, N, cur.toArray, rfl, hb, hg, Nat.le_refl _, hN, by simp; omega, by simp [← hl]⟩⟩

theorem own_shape {w : World} {base : Nat} {e : TypeId} {N : Nat} {v : Value} {xs : List Value} (h : w.ownsRow base e 1 v N xs) (hN : 0 < N) : ∃ g c, v = .slice (some ⟨g, 0, none⟩) N c ∧ base ≤ g ∧ g < w.heap.size := by
  rcases h.2 with ⟨_, h0⟩ | ⟨g, cap, cur, rfl, hb, hg, _⟩
  · omega
  · exact ⟨g, cap, rfl, hb, (Array.getElem?_eq_some_iff.1 hg).1⟩

theorem splice_all {α : Type} (L cs : List α) (h : L.length = cs.length) : splice L 0 cs = cs := by
  simp [splice, ← h]

theorem byte_of (v k : Nat) : ((UInt8.ofNat (v / 256 ^ k % 256)).toNat : Int) = (v : Int) / 256 ^ k % 256 := by
  rw [UInt8.toNat_ofNat']
  simp

theorem pow_256 (k : Nat) : (2 : Int) ^ (8 * k) = 256 ^ k := by
  have h : (2 : Nat) ^ (8 * k) = 256 ^ k := by rw [Nat.pow_mul]
  have h2 : ((2 ^ (8 * k) : Nat) : Int) = ((256 ^ k : Nat) : Int) := by rw [h]
  simpa using h2

set_option maxHeartbeats 2000000 in
set_option maxRecDepth 100000 in
theorem with_ok (b off cap : Nat) (l : List UInt8) (at_ n : Nat) (hn : n = 1 ∨ n = 2 ∨ n = 4) (hal : at_ % n = 0) (hfit : at_ + n ≤ l.length) (hmax : l.length ≤ 140737488351232) (v : Nat) (hv : v < 4294967296) (w : World)
    (hsrc : ∀ j u, (cellsB l)[j]? = some u → w.cell? ⟨b, off + j, none⟩ = some u) (hb : b < w.heap.size) :
    Calls Tryd.prog 22 #[.slice (some ⟨b, off, none⟩) l.length cap, .int .i64 at_, .int .i64 n, .int .u32 v] w fun e w' => ∃ g, e = .returned (.tuple #[.slice (some ⟨g, 0, none⟩) l.length l.length, .nilIface]) ∧
      w'.ownsRow w.heap.size 5 1 (.slice (some ⟨g, 0, none⟩) l.length l.length) l.length (cellsB (withTo l at_ v n)) ∧ Below w.heap.size w w' := by
  obtain ⟨i0, hi, hz0, hz1, hz2⟩ := info_parts infoByte
  have HK := hide (check_ok (l.length : Int) (at_ : Int) (n : Int) (by omega) (by omega) (by omega) (by omega) (by omega) (by omega))
  have hn4 : n ≤ 4 := by omega
  have hn1 : 1 ≤ n := by omega
  have hcl := cellsB_length l
  have HC := hide hcl
  clear hal hn hcl
  generalize hN : l.length = N at *
  have HN := hide hN
  clear hN
  go_enter Tryd.func22, Tryd.ntmps22
  go_wp2_with (first | (go_at_call 36; refine (HK.out _).mono ?_; rintro e w1 ⟨rfl, rfl⟩) | (at_make; refine wpList_make_full _ rfl _ _ 22 rfl w1.heap.size 5 i0 (.int .u8 0) 1 Tryd.underlying22 hi hz0 hz1 .i64 .i64 _ _ N rfl rfl rfl rfl (by rw [hz2]; omega) (by unfold maxLen; omega) (Nat.le_refl _) ?_; intro w2 hown2 hgrow2; obtain ⟨cur, hcur, hcl2, hbg⟩ := row_of hown2; have hb2 := (Below.refl w1.heap.size w1).grown hgrow2 (Nat.le_refl _) (fun k e => by cases e); clear hown2 hgrow2) | (refine wpList_copy_splice rfl _ _ 22 22 rfl 5 Tryd.underlying22 sizeByte _ _ _ _ _ _ rfl rfl w1.heap.size 0 cur 5 hcur (cellsB l) (by rw [HC.out]; simp) (fun _ => ⟨rfl, ⟨b, off, none⟩, rfl, fun j u hj => by rw [Addr.add_lit]; exact (hb2.cell (p := ⟨b, off + j, none⟩) hb).trans (hsrc j u hj)⟩) (by rw [HC.out]; omega) (cellsB_one l) w1.heap.size w1 hb2 (Nat.le_refl _) ?_; intro w3 hg3 hb3))
  have hown3 : w3.ownsRow w1.heap.size 5 1 (.slice (some ⟨w1.heap.size, 0, none⟩) N N) N (cellsB (withTo l at_ v 0)) := by
    have h := hg3.out
    rw [splice_all cur (cellsB l) (by rw [HC.out]; exact hcl2)] at h
    exact own_of_row h HC.out (Nat.le_refl _) (by unfold maxLen; omega)
  clear hcur hcl2 hb2 hg3 hsrc hbg
  go_loopw [28] (fun iv wr => ∃ k : Nat, k ≤ n ∧ iv = .int .i64 k ∧ wr.ownsRow w1.heap.size 5 1 (.slice (some ⟨w1.heap.size, 0, none⟩) N N) N (cellsB (withTo l at_ v k)) ∧ Below w1.heap.size w1 wr) (fun iv _ => n - (intOf iv).toNat)
  case atStart => exact ⟨0, Nat.zero_le _, rfl, hown3, hb3⟩
  case round =>
    obtain ⟨k, hk, rfl, hrow, hB⟩ := hrel
    clear hown3 hb3
    by_cases hlt : k < n
    · have hc := hrow.cellAt (at_ + k) (by omega)
      have hf := hrow.frozenAt (at_ + k)
      have hst := (hrow.stored (at_ + k) (.int .u8 ((v : Int) / 256 ^ k % 256))).1
      have HS := hide (show (cellsB (withTo l at_ v k)).set (at_ + k) (.int .u8 ((v : Int) / 256 ^ k % 256)) = cellsB (withTo l at_ v (k + 1)) by rw [withTo, cellsB_set, byte_of])
      rw [HS.out] at hst
      have hlen : at_ + k < (cellsB (withTo l at_ v k)).length := by rw [cellsB_length, withTo_length, HN.out]; omega
      rw [List.getElem?_eq_getElem hlen] at hc
      generalize (cellsB (withTo l at_ v k))[at_ + k] = old at *
      have HT := hide hst
      clear hst
      have HP := hide (pow_256 k)
      go_wp2
      rw [HP.out]
      go_roundw
      case rel => exact ⟨k + 1, by omega, by go_num, HT.out, hB.setCell (p := ⟨w1.heap.size, at_ + k, none⟩) (Nat.le_refl _) _⟩
      case measure => simp [intOf]; omega
    · obtain rfl : k = n := by omega
      go_wp2
      go_ret2
      exact ⟨_, rfl, hrow, hB⟩
end Go.Proofs.YtbggkoahofnnjaaDoor
namespace Go.Proofs.YtbggkoahofnnjaaDoor
open Go.RowKit
set_option linter.unusedVariables false
attribute [local go_sem ↓] Go.wp_at_zero Go.wp_at_succ

theorem numE_ok {a k n : Nat} (hk : k = 1 ∨ k = 2 ∨ k = 4) (hal : a % k = 0) (hin : a + k ≤ n * 4096) : errM (numE a k n) = .nilIface := by
  have h0 : ¬ ((k : Int) ≠ 1 ∧ (k : Int) ≠ 2 ∧ (k : Int) ≠ 4) := by omega
  have h1 : ¬ (n : Int) * 4096 < (a : Int) + (k : Int) := by omega
  have h2 : ¬ (a : Int) % (k : Int) ≠ 0 := by rcases hk with rfl | rfl | rfl <;> omega
  have e : numE a k n = 0 := by rw [numE, if_neg h0, if_neg h1, if_neg h2]
  rw [e]; rfl

end Go.Proofs.YtbggkoahofnnjaaDoor
namespace Go.Proofs.YtbggkoahofnnjaaDoor
open Go.RowKit
set_option linter.unusedVariables false
attribute [local go_sem ↓] Go.wp_at_zero Go.wp_at_succ

/-- The bytes of a number, its lowest first. -/
def numB (v k : Nat) : List Nat := (List.range k).map fun j => v / 256 ^ j % 256

theorem with_bytes (v k : Nat) (hk : k = 1 ∨ k = 2 ∨ k = 4) : cellsB (withTo (List.replicate k 0) 0 v k) = byteV (numB v k) := by
  rcases hk with rfl | rfl | rfl <;> simp [withTo, cellsB, byteV, numB, List.replicate, List.range, List.range.loop]
theorem Wrote.mono {m k : Mem} {S S' a : Nat} {l : List Nat} {d : Nat} (h : Wrote m k S' a l d) (hS : S ≤ S') : Wrote m k S a l d :=
  { n := h.n, wr := h.wr, z := h.z, dat := h.dat, dirty := h.dirty, old := fun p g e => (h.old p g e).imp id (fun e => Nat.le_trans hS e), keep := h.keep, there := h.there }
theorem Kept.of {B : Nat} {w w' : World} {own : Nat → Prop} (hb : Below w.heap.size w w') (hB : B ≤ w.heap.size) : Kept B w w' own := ⟨hb.mono hB, hb.size, fun x hx _ => hb.block x hx⟩
theorem RamAt.owned {w : World} {B b P D : Nat} {m : Mem} (h : RamAt w B b P D m) {x : Nat} (ho : m.owns b P D x) : x < w.heap.size := by
  have hr := h.head
  rcases ho with rfl | rfl | rfl | ⟨p, h1, h2⟩
  · exact hr.lt
  · exact h.pages.lt
  · exact h.marks.lt
  · exact (h.bytes p x h1 h2).lt

set_option maxHeartbeats 600000 in
theorem store_ok {w : World} {B b P D : Nat} {m : Mem} (h : RamAt w B b P D m) (hB : B ≤ w.heap.size) (a k : Nat) (ha : a < 4294967296) (hk : k = 1 ∨ k = 2 ∨ k = 4) (hal : a % k = 0) (hin : a + k ≤ m.n * 4096) (v : Nat) (hv : v < 4294967296) (hwr : m.wr ≤ 1000000000) :
    Calls Tryd.prog 8 #[.pointer (some ⟨b, 0, none⟩), .int .u32 a, .int .i64 k, .int .u32 v] w fun e w' => e = .returned .nilIface ∧ ∃ q, Wrote m q w.heap.size a (numB v k) k ∧ RamAt w' B b P D { q with wr := q.wr + 1 } ∧ Kept B w w' (m.owns b P D) := by
  have HK := hide (check_wide b P m.n a k hk ha h.few w h.pagesAt)
  rw [numE_ok hk hal hin] at HK
  have hfew := h.few
  have hk4 : k ≤ 4 := by omega
  have hk1 : 1 ≤ k := by omega
  have hmk := run_make_row' (P := Tryd.prog) 22 5 (.int .u8 0) 1 Tryd.underlying22 (by kernel_rfl) rfl .i64 .i64 k (by omega) (by omega)
  have HW : Hid (Calls Tryd.prog 22 #[.slice (some ⟨w.heap.size, 0, none⟩) k k, .int .i64 0, .int .i64 k, .int .u32 v] (w.alloc (.cells (madeCells #[.int .u8 0] k) 5)) fun e w' => ∃ g, e = .returned (.tuple #[.slice (some ⟨g, 0, none⟩) k k, .nilIface]) ∧ (∀ j u, (byteV (numB v k))[j]? = some u → w'.cell? ⟨g, 0 + j, none⟩ = some u) ∧ g < w'.heap.size ∧ w.heap.size ≤ g ∧ Below w.heap.size w w') := by
    refine hide ?_
    have hw := with_ok w.heap.size 0 k (List.replicate k 0) 0 k hk (Nat.zero_mod _) (by simp) (by simp; omega) v hv (w.alloc (.cells (madeCells #[.int .u8 0] k) 5)) (fun j u hj => by
      rw [Nat.zero_add, RowAt.cell (RowAt.new w _ _ _ rfl) j]
      have hjk : j < k := by
        have := (List.getElem?_eq_some_iff.1 hj).1
        rw [cellsB_length] at this; simpa using this
      rw [cellsB, List.getElem?_map, List.getElem?_replicate, if_pos hjk] at hj
      rw [← hj]
      simp [madeCells, hjk, Nat.mod_one]) (by simp)
    rw [List.length_replicate] at hw
    refine hw.mono ?_
    rintro e w' ⟨g, rfl, hrow, hbl⟩
    obtain ⟨g', c', hs, hg1, hg2⟩ := own_shape hrow (by omega)
    obtain rfl : g = g' := by cases hs; rfl
    rw [with_bytes v k hk] at hrow
    refine ⟨g, rfl, fun j u hj => ?_, hg2, ?_, ?_⟩
    · have hjk : j < k := by
        have := (List.getElem?_eq_some_iff.1 hj).1
        simpa [byteV, numB] using this
      rw [Nat.zero_add, ← hj]
      exact hrow.cellAt j (by omega)
    · have : w.heap.size ≤ (w.alloc (.cells (madeCells #[.int .u8 0] k) 5)).heap.size := by simp
      omega
    · exact ((Below.refl _ w).alloc (Nat.le_refl _) _).trans (hbl.mono (by simp))
  have HWr : Hid (∀ w' g, Below w.heap.size w w' → w.heap.size ≤ g → g < w'.heap.size → (∀ j u, (byteV (numB v k))[j]? = some u → w'.cell? ⟨g, 0 + j, none⟩ = some u) → Calls Tryd.prog 23 #[.pointer (some ⟨b, 0, none⟩), .int .u32 a, .slice (some ⟨g, 0, none⟩) k k] w' fun e w'' => e = .returned .nilIface ∧ ∃ q, Wrote m q w.heap.size a (numB v k) k ∧ RamAt w'' B b P D { q with wr := q.wr + 1 } ∧ Kept B w w'' (m.owns b P D)) := by
    refine hide (fun w' g hb hg hg2 hs => ?_)
    refine (write_some (h.bl hb) (Nat.le_trans hB hb.size) a ha (numB v k) k (by simp [numB]) (by omega) hin g 0 k (Nat.le_refl _) hs hg2 (fun ho => absurd (h.owned ho) (Nat.not_lt.2 hg)) hwr).mono ?_
    rintro e w'' ⟨rfl, q, h1, h2, h3⟩
    exact ⟨rfl, q, h1.mono hb.size, h2, (Kept.of hb hB).trans h3⟩
  clear h hal hin hwr
  go_enter Tryd.func8, Tryd.ntmps8
  go_wp2_with (first | (go_at_call 21; refine HK.out.mono ?_; rintro e w1 ⟨rfl, rfl⟩) | (go_at_call 22; refine HW.out.mono ?_; rintro e w2 ⟨g, rfl, hx1, hx2, hx3, hx4⟩; have H1 := hide hx1; have H2 := hide hx2; have H3 := hide hx3; have H4 := hide hx4; clear hx1 hx2 hx3 hx4) | (go_at_call 23; refine (HWr.out _ g H4.out H3.out H2.out H1.out).mono ?_; rintro e w3 ⟨rfl, hx5⟩; have H5 := hide hx5; clear hx5))
  go_ret
  exact ⟨rfl, H5.out⟩
end Go.Proofs.YtbggkoahofnnjaaDoor
namespace Go.Proofs.YtbggkoahofnnjaaDoor
open Go.RowKit
set_option linter.unusedVariables false
attribute [local go_sem ↓] Go.wp_at_zero Go.wp_at_succ

/-- A memory stays where none of its blocks changes. -/
theorem RamAt.same {w w' : World} {B b P D : Nat} {m : Mem} (h : RamAt w B b P D m) (e : ∀ x, (m.owns b P D x ∨ m.z = some x) → w'.heap[x]? = w.heap[x]?) : RamAt w' B b P D m :=
  { head := (e b (.inl (.inl rfl))).trans h.head, zero := fun g hg => (by (obtain ⟨z1, z2⟩ := h.zero g hg; exact ⟨z1.of_heap (e g (.inr hg)), z2⟩)),
    pages := h.pages.of_heap (e P (.inl (.inr (.inl rfl)))), marks := h.marks.of_heap (e D (.inl (.inr (.inr (.inl rfl))))),
    bytes := fun q g hq hg => (h.bytes q g hq hg).of_heap (e g (.inl (.inr (.inr (.inr ⟨q, hq, hg⟩))))), noughts := h.noughts, low := h.low, apart := h.apart, alone := h.alone, few := h.few, caps := h.caps, room := h.room }
theorem copy_seen {w : World} {g o O N d c cp : Nat} {q f : Nat → Value} (hG : HoldsAt w g 4096 5 q) (hO : HoldsAt w O N 5 f) (hc : MinIs c N d o) (V : List Value) (hV : V = (List.range c).map fun j => q (o + j)) (h1 : ∀ j, (q j).oneCell' = true) :
    TakeOk w O N d g o c cp V := by
  subst hV
  unfold MinIs at hc
  unfold TakeOk
  have hl : ((List.range c).map fun j => q (o + j)).length = c := by simp
  have hle : c ≤ 4096 - o := by rw [hc]; exact Nat.min_le_right _ _
  have hle2 : c ≤ N - d := by rw [hc]; exact Nat.min_le_left _ _
  have := run_copy_cells (P := Tryd.prog) w 22 22 3 5 O d (N - d) (N - d) ⟨g, o, none⟩ (4096 - o) (cp - o) ((List.range c).map fun j => q (o + j)) Tryd.underlying22 (by kernel_rfl) (hl.trans (hc.trans (Nat.min_comm _ _)))
    (fun j v hj => by
      have hjc : j < c := by rw [← hl]; exact (List.getElem?_eq_some_iff.1 hj).1
      rw [Addr.add_lit, hG.cell (j := o + j) (by omega), ← hj, List.getElem?_map, List.getElem?_range hjc]; rfl)
    (fun j hj => by rw [hO.cell (j := d + j) (by omega)]; rfl) (fun j hj => hO.thaw (d + j))
    (fun v hv => by
      simp only [List.mem_map] at hv
      obtain ⟨x, _, rfl⟩ := hv
      exact h1 _)
  rw [this, hl]
  rfl
theorem RamAt.z_lt {w : World} {B b P D : Nat} {m : Mem} (h : RamAt w B b P D m) {x : Nat} (hz : m.z = some x) : x < w.heap.size := (h.zero x hz).1.lt

end Go.Proofs.YtbggkoahofnnjaaDoor
namespace Go.Proofs.YtbggkoahofnnjaaDoor
open Go.RowKit
set_option linter.unusedVariables false
attribute [local go_sem ↓] Go.wp_at_zero Go.wp_at_succ

/-- A page's bytes, as values. -/
def wholeB (m : Mem) (p : Nat) : List Value := (List.range 4096).map fun j => Value.int .u8 (m.dat p j : Nat)
/-- A page copied whole. -/
def WholeOk (w : World) (O g so sc oc : Nat) (V : List Value) : Prop :=
    (Builtin.copy_ #[22, 22] 3 #[.slice (some ⟨O, 0, none⟩) 4096 oc, .slice (some ⟨g, so, none⟩) 4096 sc]).run Tryd.prog w = .ok (.int .i64 4096) (w.setCells O 0 V)
theorem WholeOk.eq {w : World} {O g so sc oc : Nat} {V : List Value} (h : WholeOk w O g so sc oc V) :
    (Builtin.copy_ #[22, 22] 3 #[.slice (some ⟨O, 0, none⟩) 4096 oc, .slice (some ⟨g, so, none⟩) 4096 sc]).run Tryd.prog w = .ok (.int .i64 4096) (w.setCells O 0 V) := h
/-- A page set to bytes. -/
def Mem.setp (m : Mem) (p g : Nat) (l : List Nat) : Mem := { (m.touched p g).put p 0 l with wr := m.wr + 1 }
end Go.Proofs.YtbggkoahofnnjaaDoor
namespace Go.Proofs.YtbggkoahofnnjaaDoor
open Go.RowKit
set_option linter.unusedVariables false
attribute [local go_sem ↓] Go.wp_at_zero Go.wp_at_succ

end Go.Proofs.YtbggkoahofnnjaaDoor
namespace Go.Proofs.YtbggkoahofnnjaaDoor
open Go.RowKit
set_option linter.unusedVariables false
attribute [local go_sem ↓] Go.wp_at_zero Go.wp_at_succ

/-- A page's bytes, as bytes. -/
def pageL (f : Nat → Nat) : List UInt8 := (List.range 4096).map fun j => UInt8.ofNat (f j)
theorem str_of_cellsE {W' : World} {b off c : Nat} {l : List UInt8} (h : ∀ j u, (cellsB l)[j]? = some u → W'.cell? ⟨b, off + j, none⟩ = some u) :
    (convert 22 9 (.slice (some ⟨b, off, none⟩) l.length c)).run Tryd.prog W' = .ok (.string ⟨l.toArray⟩) W' := by
  refine run_convert_bytes_back W' _ _ 5 ⟨b, off, none⟩ c l Tryd.underlying22 Tryd.underlying5 Tryd.underlying9 ?_
  intro j hj
  rw [Addr.add_lit]
  exact h j _ (by simp [cellsB, hj])
end Go.Proofs.YtbggkoahofnnjaaDoor
namespace Go.Proofs.YtbggkoahofnnjaaDoor
open Go.RowKit
set_option linter.unusedVariables false

set_option maxHeartbeats 2000000 in
set_option maxRecDepth 100000 in
theorem refwith_ok (b off cap : Nat) (l : List UInt8) (at_ n : Nat) (hn : n = 1 ∨ n = 2 ∨ n = 4) (hal : at_ % n = 0) (hfit : at_ + n ≤ l.length) (hmax : l.length ≤ 140737488351232) (v : Nat) (hv : v < 4294967296) (w : World)
    (hsrc : ∀ j u, (cellsB l)[j]? = some u → w.cell? ⟨b, off + j, none⟩ = some u) (hb : b < w.heap.size) :
    Calls Tryd.prog 25 #[.slice (some ⟨b, off, none⟩) l.length cap, .int .i64 at_, .int .i64 n, .int .u32 v] w fun e w' => ∃ g c, e = .returned (.tuple #[.slice (some ⟨g, 0, none⟩) l.length c, .int .i64 0]) ∧
      w'.ownsRow w.heap.size 5 1 (.slice (some ⟨g, 0, none⟩) l.length c) l.length (cellsB (withTo l at_ v n)) ∧ Below w.heap.size w w' := by
  obtain ⟨i0, hi, hz0, hz1, hz2⟩ := info_parts infoByte
  have hk := refcheck_any (some ⟨b, off, none⟩) l.length cap hmax (at_ : Int) (n : Int)
  have e0 : codeN l.length at_ n = 0 := by unfold codeN; rw [if_neg (by omega), if_neg (by omega), if_neg (by omega)]
  rw [e0] at hk
  have HK := hide hk
  have hn4 : n ≤ 4 := by omega
  have hn1 : 1 ≤ n := by omega
  have HC := hide (cellsB_length l)
  clear hal hn hk e0
  generalize hN : l.length = N at *
  have HN := hide hN
  clear hN
  go_enter Tryd.func25, Tryd.ntmps25
  go_wp2_with (first | (go_at_call 41; refine (HK.out _).mono ?_; rintro e w1 ⟨rfl, rfl⟩) | (at_builtin; refine wpList_append_own _ rfl _ _ 22 rfl w1.heap.size 5 i0 (.int .u8 0) 1 1 Tryd.underlying22 hi hz0 hz1 hz2 rfl (by decide) _ 0 [] rfl (World.ownsRow_nil _ _ _ _) ⟨b, off, none⟩ N cap (cellsB l) rfl (by rw [HC.out]; omega) (fun j u hj => by rw [Addr.add_lit]; exact hsrc j u hj) (cellsB_one l) (by unfold maxLen; omega) (by omega) (Nat.le_refl _) ?_; intro v' w2 hown' hgrow' hnil; clear hnil; simp only [Nat.zero_add, List.nil_append] at hown'; obtain ⟨g, c, rfl, hbg, hgl⟩ := own_shape hown' (by omega); have hb2 := (Below.refl w1.heap.size w1).grown hgrow' (Nat.le_refl _) (fun k e => by cases e); clear hgrow'))
  clear hsrc
  go_loopw [3, 12] (fun xv iv wr => ∃ k : Nat, k ≤ n ∧ iv = .int .i64 k ∧ xv = .int .u32 (v / 256 ^ k : Nat) ∧ wr.ownsRow w1.heap.size 5 1 (.slice (some ⟨g, 0, none⟩) N c) N (cellsB (withTo l at_ v k)) ∧ Below w1.heap.size w1 wr) (fun _ iv _ => n - (intOf iv).toNat)
  case atStart => exact ⟨0, Nat.zero_le _, rfl, by simp, hown', hb2⟩
  case round =>
    obtain ⟨k, hk, rfl, rfl, hrow, hB⟩ := hrel
    clear hown' hb2
    by_cases hlt : k < n
    · have hc := hrow.cellAt (at_ + k) (by omega)
      have hf := hrow.frozenAt (at_ + k)
      have hst := (hrow.stored (at_ + k) (.int .u8 (((v / 256 ^ k % 256 : Nat)) : Int))).1
      have HS := hide (show (cellsB (withTo l at_ v k)).set (at_ + k) (.int .u8 (((v / 256 ^ k % 256 : Nat)) : Int)) = cellsB (withTo l at_ v (k + 1)) by rw [withTo, cellsB_set, byte_of]; simp)
      rw [HS.out] at hst
      have hlen : at_ + k < (cellsB (withTo l at_ v k)).length := by rw [cellsB_length, withTo_length, HN.out]; omega
      rw [List.getElem?_eq_getElem hlen] at hc
      generalize (cellsB (withTo l at_ v k))[at_ + k] = old at *
      have HT := hide hst
      have HV := hide (show v / 256 ^ k / 256 = v / 256 ^ (k + 1) by rw [Nat.div_div_eq_div_mul, ← Nat.pow_succ])
      have hq : v / 256 ^ k ≤ v := Nat.div_le_self _ _
      clear hst HS hlen
      generalize v / 256 ^ k = q at *
      have HM := hide (show ((q % 256 : Nat) : Int) = (q : Int) % 256 by simp)
      rw [HM.out] at HT
      go_wp2
      go_roundw
      case rel => exact ⟨k + 1, by omega, by go_num, by rw [← HV.out]; go_num, HT.out, hB.setCell (p := ⟨g, at_ + k, none⟩) hbg _⟩
      case measure => simp [intOf]; omega
    · obtain rfl : k = n := by omega
      go_wp2
      go_ret2
      exact ⟨_, _, rfl, hrow, hB⟩
end Go.Proofs.YtbggkoahofnnjaaDoor
namespace Go.Proofs.YtbggkoahofnnjaaDoor
open Go.RowKit
set_option linter.unusedVariables false
attribute [local go_sem ↓] Go.wp_at_zero Go.wp_at_succ

/-- The dirty pages, of the first k. -/
def dirtyTo (m : Mem) (k : Nat) : List Nat := (List.range k).filter fun p => m.dirty p
def intV (l : List Nat) : List Value := l.map fun x => .int .i64 (x : Nat)
end Go.Proofs.YtbggkoahofnnjaaDoor
namespace Go.Proofs.YtbggkoahofnnjaaDoor
open Go.RowKit
set_option linter.unusedVariables false
attribute [local go_sem ↓] Go.wp_at_zero Go.wp_at_succ

def noB (n : Nat) : List Value := (Builtin.zeroCells #[.bool false] n).toList
/-- No page is dirty any more. -/
def Mem.clean (m : Mem) : Mem := { m with dirty := fun _ => false }
def ClearOk (w : World) (ty : TypeId) (D n dc : Nat) : Prop := (Builtin.clear_ #[27] ty #[.slice (some ⟨D, 0, none⟩) n dc]).run Tryd.prog w = .ok (.tuple #[]) (w.setCells D 0 (noB n))
theorem ClearOk.eq {w : World} {ty : TypeId} {D n dc : Nat} (h : ClearOk w ty D n dc) : (Builtin.clear_ #[27] ty #[.slice (some ⟨D, 0, none⟩) n dc]).run Tryd.prog w = .ok (.tuple #[]) (w.setCells D 0 (noB n)) := h
theorem own_far {W W' : World} {B e sz n : Nat} {v : Value} {xs : List Value} (h : W.ownsRow B e sz v n xs) (hh : ∀ g, B ≤ g → W'.heap[g]? = W.heap[g]?) : W'.ownsRow B e sz v n xs := by
  obtain ⟨h1, h2 | ⟨g, cap, cur, e1, e2, e3, e4⟩⟩ := h
  · exact ⟨h1, Or.inl h2⟩
  · exact ⟨h1, Or.inr ⟨g, cap, cur, e1, e2, (hh g e2).trans e3, e4⟩⟩
end Go.Proofs.YtbggkoahofnnjaaDoor
namespace Go.Proofs.YtbggkoahofnnjaaDoor
open Go.RowKit
set_option linter.unusedVariables false
attribute [local go_sem ↓] Go.wp_at_zero Go.wp_at_succ

end Go.Proofs.YtbggkoahofnnjaaDoor
namespace Go.Proofs.YtbggkoahofnnjaaDoor
open Go.RowKit
set_option linter.unusedVariables false
attribute [local go_sem ↓] Go.wp_at_zero Go.wp_at_succ

theorem Mem.dat_at (m : Mem) (p o : Nat) (ho : o < 4096) : m.dat p o = m.at (p * 4096 + o) := by
  show _ = m.dat ((p * 4096 + o) / 4096) ((p * 4096 + o) % 4096)
  rw [show (p * 4096 + o) / 4096 = p by omega, show (p * 4096 + o) % 4096 = o by omega]
theorem Wrote.byte {m k : Mem} {S a : Nat} {l : List Nat} {d : Nat} (h : Wrote m k S a l d) (hm : ∀ x, m.at x < 256) (hl : ∀ y, y ∈ l → y < 256) (x : Nat) : k.at x < 256 := by
  rw [h.dat x]
  split
  · cases hx : l[x - a]? with
    | none => decide
    | some y => exact hl y (List.mem_of_getElem? hx)
  · exact hm x
end Go.Proofs.YtbggkoahofnnjaaDoor
