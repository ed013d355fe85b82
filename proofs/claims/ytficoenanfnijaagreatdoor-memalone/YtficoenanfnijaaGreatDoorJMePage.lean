/-
  mem's checkPage, Page and SetPage.
-/
import Derived.Test.YtficoenanfnijaaGreatDoorJMeSeeR
namespace Go.Proofs.YtficoenanfnijaaGreatDoor
open Go.RowKit
set_option linter.unusedVariables false
attribute [local go_sem ↓] Go.wp_at_zero Go.wp_at_succ

set_option maxHeartbeats 1000000 in
theorem page_ok (b P n p : Nat) (hp : p < n) (hn : n ≤ 16384) (w : World) (h : PagesAt w b P n) :
    Calls Tryz.prog 39 #[.pointer (some ⟨b, 0, none⟩), .int .i64 p] w fun e w' => e = .returned .nilIface ∧ w' = w := by
  have c0 : w.cell? ⟨b, 0, none⟩ = some (.slice (some ⟨P, 0, none⟩) n n) := h
  have t0 : decide ((p : Int) < 0) = false := decide_eq_false (by omega)
  have t1 : decide ((n : Int) ≤ (p : Int)) = false := decide_eq_false (by omega)
  have t2 : decide (n ≤ p) = false := decide_eq_false (by omega)
  go_enter Tryz.func39, Tryz.ntmps39
  go_wp2
  go_ret
  exact ⟨rfl, rfl⟩
set_option maxHeartbeats 1000000 in
theorem page_no (b P n : Nat) (p : Int) (hp : p < 0 ∨ (n : Int) ≤ p) (hn : n ≤ 16384) (w : World) (h : PagesAt w b P n) :
    Calls Tryz.prog 39 #[.pointer (some ⟨b, 0, none⟩), .int .i64 p] w fun e w' => e = .returned (.iface 54 (.int .i64 4)) ∧ w' = w := by
  have c0 : w.cell? ⟨b, 0, none⟩ = some (.slice (some ⟨P, 0, none⟩) n n) := h
  by_cases h0 : p < 0
  · go_enter Tryz.func39, Tryz.ntmps39
    go_wp2
    go_ret
    exact ⟨rfl, rfl⟩
  · have t0 : decide (p < 0) = false := decide_eq_false h0
    have t1 : (n : Int) ≤ p := by omega
    clear hp h0
    go_enter Tryz.func39, Tryz.ntmps39
    go_wp2
    go_ret
    exact ⟨rfl, rfl⟩
/-- A page's bytes, as values. -/
def wholeB (m : Mem) (p : Nat) : List Value := (List.range 4096).map fun j => Value.int .u8 (m.dat p j : Nat)
theorem wholeB_len (m : Mem) (p : Nat) : (wholeB m p).length = 4096 := by simp [wholeB]
theorem wholeB_at {m : Mem} {p j : Nat} (h : j < 4096) : (wholeB m p)[j]? = some (.int .u8 (m.dat p j : Nat)) := by
  unfold wholeB; rw [List.getElem?_map, List.getElem?_range h]; rfl
theorem wholeB_one {m : Mem} {p : Nat} : ∀ v ∈ wholeB m p, v.oneCell' = true := fun v hv => by
  simp only [wholeB, List.mem_map] at hv
  obtain ⟨x, _, rfl⟩ := hv
  rfl
/-- A page copied whole. -/
def WholeOk (w : World) (O g so sc oc : Nat) (V : List Value) : Prop :=
    (Builtin.copy_ #[28, 28] 3 #[.slice (some ⟨O, 0, none⟩) 4096 oc, .slice (some ⟨g, so, none⟩) 4096 sc]).run Tryz.prog w = .ok (.int .i64 4096) (w.setCells O 0 V)
theorem WholeOk.eq {w : World} {O g so sc oc : Nat} {V : List Value} (h : WholeOk w O g so sc oc V) :
    (Builtin.copy_ #[28, 28] 3 #[.slice (some ⟨O, 0, none⟩) 4096 oc, .slice (some ⟨g, so, none⟩) 4096 sc]).run Tryz.prog w = .ok (.int .i64 4096) (w.setCells O 0 V) := h
theorem copy_whole {w : World} {O g so sc oc : Nat} {f : Nat → Value} (V : List Value) (hl : V.length = 4096) (hG : ∀ j v, V[j]? = some v → w.cell? ⟨g, so + j, none⟩ = some v) (hO : HoldsAt w O 4096 5 f) (h1 : ∀ v ∈ V, v.oneCell' = true) : WholeOk w O g so sc oc V := by
  unfold WholeOk
  have := run_copy_cells (P := Tryz.prog) w 28 28 3 5 O 0 4096 oc ⟨g, so, none⟩ 4096 sc V Tryz.underlying28 (by kernel_rfl) (by rw [hl]; rfl)
    (fun j v hj => by rw [Addr.add_lit]; exact hG j v hj)
    (fun j hj => by rw [hO.cell (j := 0 + j) (by omega)]; rfl) (fun j hj => hO.thaw (0 + j)) h1
  rw [this, hl]
  rfl
set_option maxRecDepth 100000 in
set_option maxHeartbeats 1000000 in
theorem page_all {w : World} {B b P D : Nat} {m : Mem} (h : RamAt w B b P D m) (hB : B ≤ w.heap.size) (p : Nat) (hp : p < m.n) :
    Calls Tryz.prog 13 #[.pointer (some ⟨b, 0, none⟩), .int .i64 p] w fun e w' => e = .returned (.tuple #[.slice (some ⟨w.heap.size, 0, none⟩) 4096 4096, .nilIface]) ∧ HoldsAt w' w.heap.size 4096 5 (fun o => .int .u8 (m.dat p o : Nat)) ∧
      (∃ m', Looked m m' ∧ RamAt w' B b P D m') ∧ Kept B w w' (m.owns b P D) := by
  have HCk := hide (page_ok b P m.n p hp h.few w h.pagesAt)
  have hmk : ∀ w : World, (Instr.makeSlice 28 (.int .i64 4096) (.int .i64 4096)).run Tryz.prog w = .ok (.slice (some ⟨w.heap.size, 0, none⟩) 4096 4096) (w.alloc newPage) :=
    run_make_row' (P := Tryz.prog) 28 5 (.int .u8 0) 1 Tryz.underlying28 (by kernel_rfl) rfl .i64 .i64 4096 (by omega) (by omega)
  have HLk := hide (look_any (h.bl (below_one w newPage)) (by simp; omega) hp)
  have HOw : Hid (∀ x, m.owns b P D x → x < w.heap.size) := hide (fun x hx => h.owned hx)
  have HZl : Hid (∀ x, m.z = some x → x < w.heap.size) := hide (fun x hx => h.z_lt hx)
  have HNew : Hid (HoldsAt (w.alloc newPage) w.heap.size 4096 5 (fun _ => .int .u8 0)) := hide (HoldsAt.made (RowAt.new w _ _ _ rfl))
  generalize newPage = O at *
  clear h
  go_enter Tryz.func13, Tryz.ntmps13
  go_wp2_with (first | (go_at_call 39; refine HCk.out.mono ?_; rintro e w1 ⟨rfl, rfl⟩) | (go_at_call 38; refine HLk.out.mono ?_; rintro e w3 ⟨g, m2, rfl, hx1, hx2, hx3, hx4, hx5, hx6⟩; have HL3 := hide hx1; have HM3 := hide hx2; have HG3 := hide hx3; have HK3 := hide hx4; have HZ3 := hide hx6; have HO3 := hide (hx4.holds HNew.out (fun ho => Nat.lt_irrefl _ (HOw.out _ ho))); clear hx1 hx2 hx3 hx4 hx5 hx6))
  have hcp := copy_whole (sc := m.cap p) (oc := 4096) (wholeB m p) (wholeB_len m p) (fun j v hj => (by
    have hj4 : j < 4096 := by have := (List.getElem?_eq_some_iff.1 hj).1; rwa [wholeB_len] at this
    rw [Nat.zero_add, HG3.out.cell (j := j) hj4, ← hj, wholeB_at hj4])) HO3.out wholeB_one
  rw [WholeOk.eq hcp]
  clear hcp
  go_simp
  go_wp2
  go_ret2
  have hz2 : ∀ x, m2.z = some x → x ≠ w1.heap.size := fun x hx => by
    rcases HZ3.out with e | ⟨y, e1, e2⟩
    · have := HZl.out x (e ▸ hx); omega
    · have : x = y := Option.some.inj (hx.symm.trans e1)
      simp at e2
      omega
  refine ⟨rfl, ?_, ⟨m2, HL3.out, ?_⟩, ?_⟩
  · refine (HO3.out.puts _ 0 (by rw [wholeB_len]; exact Nat.le_refl _)).congr (fun j hj => ?_)
    rw [if_pos (Nat.zero_le _), Nat.sub_zero, wholeB_at hj]
    rfl
  · exact HM3.out.same (fun x hx => heap_setCells _ _ _ _ _ (fun e => by
      rcases hx with hx | hx
      · have := HOw.out x (HL3.out.owns.1 hx); omega
      · exact hz2 x hx e))
  · have k1 : Kept B w1 w3 (m.owns b P D) := (Kept.al hB O).trans HK3.out
    exact ⟨k1.below.trans (Kept.sets (B := B) (own := fun x => x = w1.heap.size) rfl hB _ _).below, by (rw [size_setCells]; exact k1.size), fun x hx hn => (heap_setCells _ _ _ _ _ (by omega)).trans (k1.other x hx hn)⟩
/-- A page set to bytes. -/
def Mem.setp (m : Mem) (p g : Nat) (l : List Nat) : Mem := { (m.touched p g).put p 0 l with wr := m.wr + 1 }
set_option maxRecDepth 100000 in
set_option maxHeartbeats 1000000 in
theorem set_all {w : World} {B b P D : Nat} {m : Mem} (h : RamAt w B b P D m) (hB : B ≤ w.heap.size) (p : Nat) (hp : p < m.n) (l : List Nat) (hl : l.length = 4096) (sb so sc : Nat) (hsc : 4096 ≤ sc)
    (hsrc : ∀ j v, (byteV l)[j]? = some v → w.cell? ⟨sb, so + j, none⟩ = some v) (hsl : sb < w.heap.size) (hso : ¬ m.owns b P D sb) (hwr : m.wr ≤ 1000000) :
    Calls Tryz.prog 14 #[.pointer (some ⟨b, 0, none⟩), .int .i64 p, .slice (some ⟨sb, so, none⟩) 4096 sc] w fun e w' => e = .returned .nilIface ∧
      (∃ g, RamAt w' B b P D (m.setp p g l) ∧ (m.blk p = some g ∨ (m.blk p = none ∧ w.heap.size ≤ g))) ∧ Kept B w w' (m.owns b P D) := by
  have HCk := hide (page_ok b P m.n p hp h.few w h.pagesAt)
  have HT := hide (touch_ram h hB hp)
  have HS := hide hsrc
  have HOw : Hid (∀ x, m.owns b P D x → x < w.heap.size) := hide (fun x hx => h.owned hx)
  clear h hsrc
  go_enter Tryz.func14, Tryz.ntmps14
  go_wp2_with (first | (go_at_call 39; refine HCk.out.mono ?_; rintro e w1 ⟨rfl, rfl⟩) | (go_at_call 40; refine HT.out.mono ?_; rintro e w3 ⟨g, rfl, hM3, hK3, hg3⟩; have HM3 := hide hM3; have HK3 := hide hK3; have HG3 := hide hg3; clear hM3 hK3 hg3))
  have hbyt := HM3.out.bytes p g hp (upd_same _ _ _)
  have hcp := copy_whole (oc := m.cap p) (w := w3) (O := g) (g := sb) (so := so) (sc := sc) (byteV l) (by simpa [byteV] using hl) (fun j v hj => (cell_of_heap (HK3.out.other sb hsl hso) _).trans (HS.out j v hj)) hbyt (fun v hv => by
    simp only [byteV, List.mem_map] at hv
    obtain ⟨x, _, rfl⟩ := hv
    rfl)
  rw [WholeOk.eq hcp]
  clear hcp hbyt
  have hM4 : RamAt (w3.setCells g 0 (byteV l)) B b P D ((m.touched p g).put p 0 l) := HM3.out.puts (p := p) hp (upd_same _ _ _) l (by omega)
  have hr := hM4.head
  have HA := hide (add_any b 2 (m.wr : Nat) (w3.setCells g 0 (byteV l)) (hr.cell 2) (hr.thaw 2) (by omega) (by omega))
  have HM4 := hide hM4
  clear hM4 hr
  go_wp2_with (first | (go_at_call 41; refine HA.out.mono ?_; rintro e w4 ⟨rfl, rfl⟩))
  go_ret
  refine ⟨rfl, ⟨g, HM4.out.count, HG3.out⟩, ?_⟩
  have k1 : Kept B w3 (w3.setCells g 0 (byteV l)) ((m.touched p g).owns b P D) := Kept.sets (.inr (.inr (.inr ⟨p, hp, upd_same _ _ _⟩))) (HM3.out.low.2.2.2 p g hp (upd_same _ _ _)) _ _
  have k2 : Kept B w3 ((w3.setCells g 0 (byteV l)).setCell ⟨b, 2, none⟩ (.int .i64 ((m.wr : Nat) + 1))) ((m.touched p g).owns b P D) := k1.trans (Kept.set (.inl rfl) HM3.out.low.1 _)
  refine HK3.out.then k2 (fun x hx hy => ?_)
  rcases hy with h1 | h1 | h1 | ⟨q, h1, h2⟩
  · exact .inl h1
  · exact .inr (.inl h1)
  · exact .inr (.inr (.inl h1))
  · have hq : upd m.blk p (some g) q = some x := h2
    by_cases hqp : q = p
    · subst hqp
      rw [upd_same] at hq
      obtain rfl := Option.some.inj hq
      rcases HG3.out with e | e
      · exact .inr (.inr (.inr ⟨q, h1, e⟩))
      · exact absurd hx (Nat.not_lt.2 e.2)
    · rw [upd_other _ _ hqp] at hq
      exact .inr (.inr (.inr ⟨q, h1, hq⟩))
end Go.Proofs.YtficoenanfnijaaGreatDoor
