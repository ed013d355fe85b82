/-
  CsrHolds, walked.
-/
import Derived.Test.YtcfemoajddfiiaaDoorCsCheck
import Derived.Test.YtcfemoajddfiiaaDoorCsRet
import Derived.Test.YtcfemoajddfiiaaDoorCsWrite
import Derived.Test.YtcfemoajddfiiaaDoorCsAsks
import Derived.Test.YtcfemoajddfiiaaDoorCsMath2
import Derived.Deep.RegionHeld3
namespace Go.Proofs.YtcfemoajddfiiaaDoor
open Go.RowKit
set_option linter.unusedVariables false

theorem OrderAt.al {w : World} (h : OrderAt w) (o : Obj) : OrderAt (w.alloc o) := ⟨cell_al h.1 o, cell_al h.2.1 o, cell_al h.2.2 o⟩
theorem OrderAt.dr {w : World} (h : OrderAt w) : OrderAt w.drew := h
theorem Calls.al {P : Program} {f : Nat} {args : Array Value} {r : Value} {w1 : World} {S : World → Prop} (hal : ∀ w o, S w → S (w.alloc o)) (hs : S w1)
    (h : Calls P f args w1 fun e w2 => e = .returned r ∧ ∃ o, w2 = w1.alloc o) : Calls P f args w1 fun e w2 => e = .returned r ∧ S w2 :=
  h.mono fun e w2 ⟨he, o, hw⟩ => ⟨he, hw ▸ hal _ _ hs⟩
theorem Calls.al3 {P : Program} {f : Nat} {args : Array Value} {r : Value} {w1 : World} {S : World → Prop} (hal : ∀ w o, S w → S (w.alloc o)) (hs : S w1)
    (h : Calls P f args w1 fun e w2 => e = .returned r ∧ ∃ o o' p, w2 = ((w1.alloc o).alloc o').alloc p) : Calls P f args w1 fun e w2 => e = .returned r ∧ S w2 :=
  h.mono fun e w2 ⟨he, o, o', p, hw⟩ => ⟨he, hw ▸ hal _ _ (hal _ _ (hal _ _ hs))⟩

/-- Block b holds a state. -/
def EightAt (w : World) (b : Nat) (s : S8) : Prop := w.cell? ⟨b, 0, none⟩ = some (.int .u32 s.st) ∧ w.cell? ⟨b, 1, none⟩ = some (.int .u32 s.en) ∧ w.cell? ⟨b, 2, none⟩ = some (.int .u32 s.ve) ∧ w.cell? ⟨b, 3, none⟩ = some (.int .u32 s.sc) ∧ w.cell? ⟨b, 4, none⟩ = some (.int .u32 s.ep) ∧ w.cell? ⟨b, 5, none⟩ = some (.int .u32 s.ca) ∧ w.cell? ⟨b, 6, none⟩ = some (.int .u32 s.va) ∧ w.cell? ⟨b, 7, none⟩ = some (.int .u64 s.ct)
theorem EightAt.al {w : World} {b : Nat} {s : S8} (h : EightAt w b s) (o : Obj) : EightAt (w.alloc o) b s :=
  ⟨cell_al h.1 o, cell_al h.2.1 o, cell_al h.2.2.1 o, cell_al h.2.2.2.1 o, cell_al h.2.2.2.2.1 o, cell_al h.2.2.2.2.2.1 o, cell_al h.2.2.2.2.2.2.1 o, cell_al h.2.2.2.2.2.2.2 o⟩
theorem EightAt.new (w : World) (s : S8) (t : TypeId) : EightAt (w.alloc (.cells s.cells t)) w.heap.size s := by
  refine ⟨?_, ?_, ?_, ?_, ?_, ?_, ?_, ?_⟩
  all_goals exact (cell_of_row _ _ _ _ _ (0, 0) (heap_alloc_new w _)).trans rfl

theorem EightAt.at (w : World) (st en ve sc ep ca va ct b : Nat) (t : TypeId) (h : w.heap.size = b) : EightAt (w.alloc (.cells #[.int .u32 st, .int .u32 en, .int .u32 ve, .int .u32 sc, .int .u32 ep, .int .u32 ca, .int .u32 va, .int .u64 ct] t)) b ⟨st, en, ve, sc, ep, ca, va, ct⟩ := h ▸ EightAt.new w ⟨st, en, ve, sc, ep, ca, va, ct⟩ t
theorem EightAt.dr {w : World} {b : Nat} {s : S8} (h : EightAt w b s) : EightAt w.drew b s := h
theorem cell_dr {w : World} {p : Addr} {v : Value} (h : w.cell? p = some v) : w.drew.cell? p = some v := h
theorem four_at (w : World) (v0 v1 v2 v3 b : Nat) (t : TypeId) (h : w.heap.size = b) : (w.alloc (.cells #[.int .u32 v0, .int .u32 v1, .int .u32 v2, .int .u32 v3] t)).cell? ⟨b, 2, none⟩ = some (.int .u32 v2) ∧ (w.alloc (.cells #[.int .u32 v0, .int .u32 v1, .int .u32 v2, .int .u32 v3] t)).cell? ⟨b, 3, none⟩ = some (.int .u32 v3) := by
  subst h
  exact ⟨(cell_of_row _ _ _ _ _ (0, 0) (heap_alloc_new w _)).trans rfl, (cell_of_row _ _ _ _ _ (0, 0) (heap_alloc_new w _)).trans rfl⟩

/-- A state's cells, as they are handed to Check, and to Asks with its answer. -/
def May (x : Value) : Prop := ∃ s : S8, s.Ok ∧ mayB s = true ∧ x = .agg s.cells
def Ask (l : Nat) (x : Value) (r : Nat) : Prop := ∃ s : S8, s.Ok ∧ asksN s.st s.en l = r ∧ x = .agg s.cells
theorem check_yes (s : S8) (hs : s.Ok) (h : mayB s = true) (w : World) :
    Calls Tryd.prog 10 #[.agg s.cells] w fun e w' => e = .returned .nilIface ∧ ∃ o, w' = w.alloc o := by
  have hc := check_any s hs w
  rw [h] at hc
  exact hc
theorem check_no (s : S8) (hs : s.Ok) (h : mayB s = false) (w : World) :
    Calls Tryd.prog 10 #[.agg s.cells] w fun e w' => e = .returned (.iface 53 (.int .i64 1)) ∧ ∃ o, w' = w.alloc o := by
  have hc := check_any s hs w
  rw [h] at hc
  exact hc

theorem check_may (x : Value) (h : May x) (w : World) :
    Calls Tryd.prog 10 #[x] w fun e w' => e = .returned .nilIface ∧ ∃ o, w' = w.alloc o := by
  obtain ⟨s, h1, h2, rfl⟩ := h
  exact check_yes s h1 h2 w
theorem asks_ask (l : Nat) (hl : l < 4294967296) (x : Value) (r : Nat) (h : Ask l x r) (w : World) (hO : OrderAt w) :
    Calls Tryd.prog 17 #[x, .int .u32 l] w fun e w' => e = .returned (.int .u32 (r : Nat)) ∧ ∃ o, w' = w.alloc o := by
  obtain ⟨s, h1, rfl, rfl⟩ := h
  exact asks_any s h1 l hl w hO

set_option maxHeartbeats 1000000 in
theorem holds_no (s : S8) (hs : s.Ok) (a : Int) (v0 v1 v2 v3 : Nat) (w : World) (hm : mayB s = false) :
    Calls Tryd.prog 6 #[.agg s.cells, .int .i64 a, .agg #[.int .u32 v0, .int .u32 v1, .int .u32 v2, .int .u32 v3]] w fun e w' => e = .returned (.bool true) ∧ Below w.heap.size w w' := by
  have HC := hide (check_no s hs hm)
  have HS := hide sure_any
  obtain ⟨st, en, ve, sc, ep, ca, va, ct⟩ := s
  simp only [S8.cells] at HC ⊢
  clear hm hs
  go_enter Tryd.func6, Tryd.ntmps6
  go_wp2_with (first | (go_at_call 10; refine (HC.out _).mono ?_; rintro e w1 ⟨rfl, o1, rfl⟩) | (go_at_call 12; refine (HS.out _).mono ?_; rintro e w2 ⟨rfl, o2, o3, o4, rfl⟩))
  go_ret
  refine ⟨rfl, ?_⟩
  repeat (first | exact Below.refl _ _ | refine Below.drew ?_ | refine Below.alloc ?_ (by simp <;> omega) _)

set_option maxHeartbeats 2000000 in
theorem holds_yes (s : S8) (hs : s.Ok) (a : Int) (v0 v1 v2 v3 : Nat) (h0 : v0 < 4294967296) (h1 : v1 < 4294967296) (h2 : v2 < 4294967296) (h3 : v3 < 4294967296) (w : World) (hO : OrderAt w) (hm : mayB s = true) (hw : (writeN s a v0).2 = 0) :
    Calls Tryd.prog 6 #[.agg s.cells, .int .i64 a, .agg #[.int .u32 v0, .int .u32 v1, .int .u32 v2, .int .u32 v3]] w fun e w' => e = .returned (.bool true) ∧ Below w.heap.size w w' := by
  have HC1 := hide (check_yes s hs hm)
  have HW := hide (write_any s hs a v0 h0)
  have HC2 := hide (check_yes _ (writeN_ok hs a h0) (may_write s hm a v0 hw))
  rw [hw] at HW
  have HT := hide (trap_any s hs v0 v1 v2 h0 h2)
  have ht := trapN_ok hs h0 h1 h2
  have hmt := may_trap s hs hm v0 v1 v2
  have HR := hide (return_any _ ht)
  have m3 : May (.agg (trapN s v0 v1 v2).cells) := ⟨_, ht, hmt, rfl⟩
  have m4 : May (.agg (retN (trapN s v0 v1 v2)).cells) := ⟨_, retN_ok ht, may_ret _ ht hmt, rfl⟩
  have a1 : Ask v3 (.agg s.cells) (asksN s.st s.en v3) := ⟨_, hs, rfl, rfl⟩
  have a2 : Ask v3 (.agg (trapN s v0 v1 v2).cells) 0 := ⟨_, ht, asks_trap _ _ _ hs.st, rfl⟩
  have a3 : Ask v3 (.agg (retN (trapN s v0 v1 v2)).cells) (asksN s.st s.en v3) := ⟨_, retN_ok ht, asks_ret _ _ _ hs.st, rfl⟩
  have HA := hide (asks_ask v3 h3)
  have HCM := hide check_may
  have HE : bits .andNot .u32 (v2 : Int) 3 = ((v2 &&& 4294967292 : Nat) : Int) := u32_andNot_nat v2 3 h2 (by decide)
  have ee : (trapN s v0 v1 v2).ep = v2 &&& 4294967292 := rfl
  rw [ee] at HR
  generalize v2 &&& 4294967292 = pe at *
  generalize asksN s.st s.en v3 = z at *
  generalize trapTo s.ve v0 = to at *
  generalize retN (trapN s v0 v1 v2) = u at *
  generalize trapN s v0 v1 v2 = t at *
  generalize (writeN s a v0).1 = y at *
  have HO := hide hO
  clear hO hs hm hw ht hmt ee h0 h1 h2 h3
  obtain ⟨st, en, ve, sc, ep, ca, va, ct⟩ := s
  obtain ⟨t0, t1, t2, t3, t4, t5, t6, t7⟩ := t
  obtain ⟨u0, u1, u2, u3, u4, u5, u6, u7⟩ := u
  obtain ⟨y0, y1, y2, y3, y4, y5, y6, y7⟩ := y
  have HS := hide sure_any
  simp only [S8.cells, errW] at HC1 HC2 HW HT HR m3 m4 a1 a2 a3 ⊢
  go_enter Tryd.func6, Tryd.ntmps6
  go_wp2_with (fail)
  refine (HC1.out _).mono ?_
  rintro e w1 ⟨rfl, o1, rfl⟩
  go_wp2_with (fail)
  refine (HW.out _).mono ?_
  rintro e w2 ⟨rfl, o2, o3, rfl⟩
  go_wp2_with (fail)
  refine (HC2.out _).mono ?_
  rintro e w3 ⟨rfl, o4, rfl⟩
  go_wp2_with (fail)
  refine (HT.out _).mono ?_
  rintro e w4 ⟨rfl, o5, o6, rfl⟩
  go_wp2_with (fail)
  refine (HR.out _).mono ?_
  rintro e w5 ⟨rfl, o7, o8, hw5⟩
  have hx : EightAt w5 (w.heap.size + 1 + 1) ⟨st, en, ve, sc, ep, ca, va, ct⟩ := by
    rw [hw5]
    refine EightAt.dr ?_
    iterate 10 refine EightAt.al ?_ _
    exact EightAt.at _ st en ve sc ep ca va ct _ _ (by simp)
  have ht : EightAt w5 (w.heap.size + 1 + 1 + 1 + 1 + 1 + 1 + 1 + 1 + 1 + 1) ⟨t0, t1, t2, t3, t4, t5, t6, t7⟩ := by
    rw [hw5]
    refine EightAt.dr ?_
    iterate 2 refine EightAt.al ?_ _
    exact EightAt.at _ t0 t1 t2 t3 t4 t5 t6 t7 _ _ (by simp)
  have h2 : w5.cell? ⟨w.heap.size + 1, 2, none⟩ = some (.int .u32 (v2 : Nat)) := by
    rw [hw5]
    refine cell_dr ?_
    iterate 11 refine cell_al ?_ _
    exact (four_at _ v0 v1 v2 v3 _ _ (by simp)).1
  have h3 : w5.cell? ⟨w.heap.size + 1, 3, none⟩ = some (.int .u32 (v3 : Nat)) := by
    rw [hw5]
    refine cell_dr ?_
    iterate 11 refine cell_al ?_ _
    exact (four_at _ v0 v1 v2 v3 _ _ (by simp)).2
  have hO5 : OrderAt w5 := by
    rw [hw5]
    refine OrderAt.dr ?_
    iterate 13 refine OrderAt.al ?_ _
    exact HO.out
  have hB5 : Below w.heap.size w w5 := by
    rw [hw5]
    refine Below.drew ?_
    iterate 13 refine Below.alloc ?_ (by simp <;> omega) _
    exact Below.refl _ _
  have hz5 : w5.heap.size = w.heap.size + 1 + 1 + 1 + 1 + 1 + 1 + 1 + 1 + 1 + 1 + 1 + 1 + 1 := by rw [hw5]; simp
  clear hw5 HO
  have HX := hide hx
  have HTt := hide ht
  have H2 := hide h2
  have H3 := hide h3
  have HO5 := hide hO5
  have HB5 := hide hB5
  clear hx ht h2 h3 hO5 hB5
  have HAL : Hid (∀ w1 o, ((w1.cell? ⟨w.heap.size + 1 + 1, 0, none⟩ = some (.int .u32 (st : Nat)) ∧ w1.cell? ⟨w.heap.size + 1 + 1, 1, none⟩ = some (.int .u32 (en : Nat)) ∧ w1.cell? ⟨w.heap.size + 1 + 1, 2, none⟩ = some (.int .u32 (ve : Nat)) ∧ w1.cell? ⟨w.heap.size + 1 + 1, 3, none⟩ = some (.int .u32 (sc : Nat)) ∧ w1.cell? ⟨w.heap.size + 1 + 1, 4, none⟩ = some (.int .u32 (ep : Nat)) ∧ w1.cell? ⟨w.heap.size + 1 + 1, 5, none⟩ = some (.int .u32 (ca : Nat)) ∧ w1.cell? ⟨w.heap.size + 1 + 1, 6, none⟩ = some (.int .u32 (va : Nat)) ∧ w1.cell? ⟨w.heap.size + 1 + 1, 7, none⟩ = some (.int .u64 (ct : Nat))) ∧ (w1.cell? ⟨w.heap.size + 1 + 1 + 1 + 1 + 1 + 1 + 1 + 1 + 1 + 1, 0, none⟩ = some (.int .u32 (t0 : Nat)) ∧ w1.cell? ⟨w.heap.size + 1 + 1 + 1 + 1 + 1 + 1 + 1 + 1 + 1 + 1, 1, none⟩ = some (.int .u32 (t1 : Nat)) ∧ w1.cell? ⟨w.heap.size + 1 + 1 + 1 + 1 + 1 + 1 + 1 + 1 + 1 + 1, 2, none⟩ = some (.int .u32 (t2 : Nat)) ∧ w1.cell? ⟨w.heap.size + 1 + 1 + 1 + 1 + 1 + 1 + 1 + 1 + 1 + 1, 3, none⟩ = some (.int .u32 (t3 : Nat)) ∧ w1.cell? ⟨w.heap.size + 1 + 1 + 1 + 1 + 1 + 1 + 1 + 1 + 1 + 1, 4, none⟩ = some (.int .u32 (t4 : Nat)) ∧ w1.cell? ⟨w.heap.size + 1 + 1 + 1 + 1 + 1 + 1 + 1 + 1 + 1 + 1, 5, none⟩ = some (.int .u32 (t5 : Nat)) ∧ w1.cell? ⟨w.heap.size + 1 + 1 + 1 + 1 + 1 + 1 + 1 + 1 + 1 + 1, 6, none⟩ = some (.int .u32 (t6 : Nat)) ∧ w1.cell? ⟨w.heap.size + 1 + 1 + 1 + 1 + 1 + 1 + 1 + 1 + 1 + 1, 7, none⟩ = some (.int .u64 (t7 : Nat))) ∧ (w1.cell? ⟨w.heap.size + 1 + 1 + 1 + 1 + 1 + 1 + 1 + 1 + 1 + 1 + 1 + 1 + 1, 0, none⟩ = some (.int .u32 (u0 : Nat)) ∧ w1.cell? ⟨w.heap.size + 1 + 1 + 1 + 1 + 1 + 1 + 1 + 1 + 1 + 1 + 1 + 1 + 1, 1, none⟩ = some (.int .u32 (u1 : Nat)) ∧ w1.cell? ⟨w.heap.size + 1 + 1 + 1 + 1 + 1 + 1 + 1 + 1 + 1 + 1 + 1 + 1 + 1, 2, none⟩ = some (.int .u32 (u2 : Nat)) ∧ w1.cell? ⟨w.heap.size + 1 + 1 + 1 + 1 + 1 + 1 + 1 + 1 + 1 + 1 + 1 + 1 + 1, 3, none⟩ = some (.int .u32 (u3 : Nat)) ∧ w1.cell? ⟨w.heap.size + 1 + 1 + 1 + 1 + 1 + 1 + 1 + 1 + 1 + 1 + 1 + 1 + 1, 4, none⟩ = some (.int .u32 (u4 : Nat)) ∧ w1.cell? ⟨w.heap.size + 1 + 1 + 1 + 1 + 1 + 1 + 1 + 1 + 1 + 1 + 1 + 1 + 1, 5, none⟩ = some (.int .u32 (u5 : Nat)) ∧ w1.cell? ⟨w.heap.size + 1 + 1 + 1 + 1 + 1 + 1 + 1 + 1 + 1 + 1 + 1 + 1 + 1, 6, none⟩ = some (.int .u32 (u6 : Nat)) ∧ w1.cell? ⟨w.heap.size + 1 + 1 + 1 + 1 + 1 + 1 + 1 + 1 + 1 + 1 + 1 + 1 + 1, 7, none⟩ = some (.int .u64 (u7 : Nat))) ∧ (w1.cell? ⟨w.heap.size + 1, 2, none⟩ = some (.int .u32 (v2 : Nat)) ∧ w1.cell? ⟨w.heap.size + 1, 3, none⟩ = some (.int .u32 (v3 : Nat))) ∧ OrderAt w1 ∧ Below w.heap.size w w1) → (((World.alloc w1 o).cell? ⟨w.heap.size + 1 + 1, 0, none⟩ = some (.int .u32 (st : Nat)) ∧ (World.alloc w1 o).cell? ⟨w.heap.size + 1 + 1, 1, none⟩ = some (.int .u32 (en : Nat)) ∧ (World.alloc w1 o).cell? ⟨w.heap.size + 1 + 1, 2, none⟩ = some (.int .u32 (ve : Nat)) ∧ (World.alloc w1 o).cell? ⟨w.heap.size + 1 + 1, 3, none⟩ = some (.int .u32 (sc : Nat)) ∧ (World.alloc w1 o).cell? ⟨w.heap.size + 1 + 1, 4, none⟩ = some (.int .u32 (ep : Nat)) ∧ (World.alloc w1 o).cell? ⟨w.heap.size + 1 + 1, 5, none⟩ = some (.int .u32 (ca : Nat)) ∧ (World.alloc w1 o).cell? ⟨w.heap.size + 1 + 1, 6, none⟩ = some (.int .u32 (va : Nat)) ∧ (World.alloc w1 o).cell? ⟨w.heap.size + 1 + 1, 7, none⟩ = some (.int .u64 (ct : Nat))) ∧ ((World.alloc w1 o).cell? ⟨w.heap.size + 1 + 1 + 1 + 1 + 1 + 1 + 1 + 1 + 1 + 1, 0, none⟩ = some (.int .u32 (t0 : Nat)) ∧ (World.alloc w1 o).cell? ⟨w.heap.size + 1 + 1 + 1 + 1 + 1 + 1 + 1 + 1 + 1 + 1, 1, none⟩ = some (.int .u32 (t1 : Nat)) ∧ (World.alloc w1 o).cell? ⟨w.heap.size + 1 + 1 + 1 + 1 + 1 + 1 + 1 + 1 + 1 + 1, 2, none⟩ = some (.int .u32 (t2 : Nat)) ∧ (World.alloc w1 o).cell? ⟨w.heap.size + 1 + 1 + 1 + 1 + 1 + 1 + 1 + 1 + 1 + 1, 3, none⟩ = some (.int .u32 (t3 : Nat)) ∧ (World.alloc w1 o).cell? ⟨w.heap.size + 1 + 1 + 1 + 1 + 1 + 1 + 1 + 1 + 1 + 1, 4, none⟩ = some (.int .u32 (t4 : Nat)) ∧ (World.alloc w1 o).cell? ⟨w.heap.size + 1 + 1 + 1 + 1 + 1 + 1 + 1 + 1 + 1 + 1, 5, none⟩ = some (.int .u32 (t5 : Nat)) ∧ (World.alloc w1 o).cell? ⟨w.heap.size + 1 + 1 + 1 + 1 + 1 + 1 + 1 + 1 + 1 + 1, 6, none⟩ = some (.int .u32 (t6 : Nat)) ∧ (World.alloc w1 o).cell? ⟨w.heap.size + 1 + 1 + 1 + 1 + 1 + 1 + 1 + 1 + 1 + 1, 7, none⟩ = some (.int .u64 (t7 : Nat))) ∧ ((World.alloc w1 o).cell? ⟨w.heap.size + 1 + 1 + 1 + 1 + 1 + 1 + 1 + 1 + 1 + 1 + 1 + 1 + 1, 0, none⟩ = some (.int .u32 (u0 : Nat)) ∧ (World.alloc w1 o).cell? ⟨w.heap.size + 1 + 1 + 1 + 1 + 1 + 1 + 1 + 1 + 1 + 1 + 1 + 1 + 1, 1, none⟩ = some (.int .u32 (u1 : Nat)) ∧ (World.alloc w1 o).cell? ⟨w.heap.size + 1 + 1 + 1 + 1 + 1 + 1 + 1 + 1 + 1 + 1 + 1 + 1 + 1, 2, none⟩ = some (.int .u32 (u2 : Nat)) ∧ (World.alloc w1 o).cell? ⟨w.heap.size + 1 + 1 + 1 + 1 + 1 + 1 + 1 + 1 + 1 + 1 + 1 + 1 + 1, 3, none⟩ = some (.int .u32 (u3 : Nat)) ∧ (World.alloc w1 o).cell? ⟨w.heap.size + 1 + 1 + 1 + 1 + 1 + 1 + 1 + 1 + 1 + 1 + 1 + 1 + 1, 4, none⟩ = some (.int .u32 (u4 : Nat)) ∧ (World.alloc w1 o).cell? ⟨w.heap.size + 1 + 1 + 1 + 1 + 1 + 1 + 1 + 1 + 1 + 1 + 1 + 1 + 1, 5, none⟩ = some (.int .u32 (u5 : Nat)) ∧ (World.alloc w1 o).cell? ⟨w.heap.size + 1 + 1 + 1 + 1 + 1 + 1 + 1 + 1 + 1 + 1 + 1 + 1 + 1, 6, none⟩ = some (.int .u32 (u6 : Nat)) ∧ (World.alloc w1 o).cell? ⟨w.heap.size + 1 + 1 + 1 + 1 + 1 + 1 + 1 + 1 + 1 + 1 + 1 + 1 + 1, 7, none⟩ = some (.int .u64 (u7 : Nat))) ∧ ((World.alloc w1 o).cell? ⟨w.heap.size + 1, 2, none⟩ = some (.int .u32 (v2 : Nat)) ∧ (World.alloc w1 o).cell? ⟨w.heap.size + 1, 3, none⟩ = some (.int .u32 (v3 : Nat))) ∧ OrderAt (World.alloc w1 o) ∧ Below w.heap.size w (World.alloc w1 o))) := hide fun w1 o ⟨hx, ht, hu, h23, hor, hbe⟩ => ⟨EightAt.al (s := ⟨st, en, ve, sc, ep, ca, va, ct⟩) hx o, EightAt.al (s := ⟨t0, t1, t2, t3, t4, t5, t6, t7⟩) ht o, EightAt.al (s := ⟨u0, u1, u2, u3, u4, u5, u6, u7⟩) hu o, ⟨cell_al h23.1 o, cell_al h23.2 o⟩, hor.al o, hbe.alloc hbe.size o⟩
  go_wp2_with (fail)
  obtain ⟨W, hW⟩ : ∃ W, w5.alloc (.cells #[.int .u32 u0, .int .u32 u1, .int .u32 u2, .int .u32 u3, .int .u32 u4, .int .u32 u5, .int .u32 u6, .int .u64 u7] 26) = W := ⟨_, rfl⟩
  have hxW := hW ▸ HX.out.al (.cells #[.int .u32 u0, .int .u32 u1, .int .u32 u2, .int .u32 u3, .int .u32 u4, .int .u32 u5, .int .u32 u6, .int .u64 u7] 26)
  have htW := hW ▸ HTt.out.al (.cells #[.int .u32 u0, .int .u32 u1, .int .u32 u2, .int .u32 u3, .int .u32 u4, .int .u32 u5, .int .u32 u6, .int .u64 u7] 26)
  have huW := hW ▸ EightAt.at w5 u0 u1 u2 u3 u4 u5 u6 u7 (w.heap.size + 1 + 1 + 1 + 1 + 1 + 1 + 1 + 1 + 1 + 1 + 1 + 1 + 1) 26 hz5
  have g2 := hW ▸ cell_al H2.out (.cells #[.int .u32 u0, .int .u32 u1, .int .u32 u2, .int .u32 u3, .int .u32 u4, .int .u32 u5, .int .u32 u6, .int .u64 u7] 26)
  have g3 := hW ▸ cell_al H3.out (.cells #[.int .u32 u0, .int .u32 u1, .int .u32 u2, .int .u32 u3, .int .u32 u4, .int .u32 u5, .int .u32 u6, .int .u64 u7] 26)
  have hOr : OrderAt W := hW ▸ HO5.out.al _
  have hBe : Below w.heap.size w W := hW ▸ HB5.out.alloc HB5.out.size _
  rw [hW]
  clear hW HX HTt H2 H3 HO5 HB5 hz5
  obtain ⟨c0, c1, c2, c3, c4, c5, c6, c7⟩ := hxW
  obtain ⟨d0, d1, d2, d3, d4, d5, d6, d7⟩ := htW
  obtain ⟨f0, f1, f2, f3, f4, f5, f6, f7⟩ := huW
  simp only at c0 c1 c2 c3 c4 c5 c6 c7 d0 d1 d2 d3 d4 d5 d6 d7 f0 f1 f2 f3 f4 f5 f6 f7
  have hOrd := hOr.dr
  have hBed := hBe.drew
  go_region_held3 (fun w' => (w'.cell? ⟨w.heap.size + 1 + 1, 0, none⟩ = some (.int .u32 (st : Nat)) ∧ w'.cell? ⟨w.heap.size + 1 + 1, 1, none⟩ = some (.int .u32 (en : Nat)) ∧ w'.cell? ⟨w.heap.size + 1 + 1, 2, none⟩ = some (.int .u32 (ve : Nat)) ∧ w'.cell? ⟨w.heap.size + 1 + 1, 3, none⟩ = some (.int .u32 (sc : Nat)) ∧ w'.cell? ⟨w.heap.size + 1 + 1, 4, none⟩ = some (.int .u32 (ep : Nat)) ∧ w'.cell? ⟨w.heap.size + 1 + 1, 5, none⟩ = some (.int .u32 (ca : Nat)) ∧ w'.cell? ⟨w.heap.size + 1 + 1, 6, none⟩ = some (.int .u32 (va : Nat)) ∧ w'.cell? ⟨w.heap.size + 1 + 1, 7, none⟩ = some (.int .u64 (ct : Nat))) ∧ (w'.cell? ⟨w.heap.size + 1 + 1 + 1 + 1 + 1 + 1 + 1 + 1 + 1 + 1, 0, none⟩ = some (.int .u32 (t0 : Nat)) ∧ w'.cell? ⟨w.heap.size + 1 + 1 + 1 + 1 + 1 + 1 + 1 + 1 + 1 + 1, 1, none⟩ = some (.int .u32 (t1 : Nat)) ∧ w'.cell? ⟨w.heap.size + 1 + 1 + 1 + 1 + 1 + 1 + 1 + 1 + 1 + 1, 2, none⟩ = some (.int .u32 (t2 : Nat)) ∧ w'.cell? ⟨w.heap.size + 1 + 1 + 1 + 1 + 1 + 1 + 1 + 1 + 1 + 1, 3, none⟩ = some (.int .u32 (t3 : Nat)) ∧ w'.cell? ⟨w.heap.size + 1 + 1 + 1 + 1 + 1 + 1 + 1 + 1 + 1 + 1, 4, none⟩ = some (.int .u32 (t4 : Nat)) ∧ w'.cell? ⟨w.heap.size + 1 + 1 + 1 + 1 + 1 + 1 + 1 + 1 + 1 + 1, 5, none⟩ = some (.int .u32 (t5 : Nat)) ∧ w'.cell? ⟨w.heap.size + 1 + 1 + 1 + 1 + 1 + 1 + 1 + 1 + 1 + 1, 6, none⟩ = some (.int .u32 (t6 : Nat)) ∧ w'.cell? ⟨w.heap.size + 1 + 1 + 1 + 1 + 1 + 1 + 1 + 1 + 1 + 1, 7, none⟩ = some (.int .u64 (t7 : Nat))) ∧ (w'.cell? ⟨w.heap.size + 1 + 1 + 1 + 1 + 1 + 1 + 1 + 1 + 1 + 1 + 1 + 1 + 1, 0, none⟩ = some (.int .u32 (u0 : Nat)) ∧ w'.cell? ⟨w.heap.size + 1 + 1 + 1 + 1 + 1 + 1 + 1 + 1 + 1 + 1 + 1 + 1 + 1, 1, none⟩ = some (.int .u32 (u1 : Nat)) ∧ w'.cell? ⟨w.heap.size + 1 + 1 + 1 + 1 + 1 + 1 + 1 + 1 + 1 + 1 + 1 + 1 + 1, 2, none⟩ = some (.int .u32 (u2 : Nat)) ∧ w'.cell? ⟨w.heap.size + 1 + 1 + 1 + 1 + 1 + 1 + 1 + 1 + 1 + 1 + 1 + 1 + 1, 3, none⟩ = some (.int .u32 (u3 : Nat)) ∧ w'.cell? ⟨w.heap.size + 1 + 1 + 1 + 1 + 1 + 1 + 1 + 1 + 1 + 1 + 1 + 1 + 1, 4, none⟩ = some (.int .u32 (u4 : Nat)) ∧ w'.cell? ⟨w.heap.size + 1 + 1 + 1 + 1 + 1 + 1 + 1 + 1 + 1 + 1 + 1 + 1 + 1, 5, none⟩ = some (.int .u32 (u5 : Nat)) ∧ w'.cell? ⟨w.heap.size + 1 + 1 + 1 + 1 + 1 + 1 + 1 + 1 + 1 + 1 + 1 + 1 + 1, 6, none⟩ = some (.int .u32 (u6 : Nat)) ∧ w'.cell? ⟨w.heap.size + 1 + 1 + 1 + 1 + 1 + 1 + 1 + 1 + 1 + 1 + 1 + 1 + 1, 7, none⟩ = some (.int .u64 (u7 : Nat))) ∧ (w'.cell? ⟨w.heap.size + 1, 2, none⟩ = some (.int .u32 (v2 : Nat)) ∧ w'.cell? ⟨w.heap.size + 1, 3, none⟩ = some (.int .u32 (v3 : Nat))) ∧ OrderAt w' ∧ Below w.heap.size w w') (go_keep)
    (first | (go_at_call 10; refine (Calls.al (S := fun v => (v.cell? ⟨w.heap.size + 1 + 1, 0, none⟩ = some (.int .u32 (st : Nat)) ∧ v.cell? ⟨w.heap.size + 1 + 1, 1, none⟩ = some (.int .u32 (en : Nat)) ∧ v.cell? ⟨w.heap.size + 1 + 1, 2, none⟩ = some (.int .u32 (ve : Nat)) ∧ v.cell? ⟨w.heap.size + 1 + 1, 3, none⟩ = some (.int .u32 (sc : Nat)) ∧ v.cell? ⟨w.heap.size + 1 + 1, 4, none⟩ = some (.int .u32 (ep : Nat)) ∧ v.cell? ⟨w.heap.size + 1 + 1, 5, none⟩ = some (.int .u32 (ca : Nat)) ∧ v.cell? ⟨w.heap.size + 1 + 1, 6, none⟩ = some (.int .u32 (va : Nat)) ∧ v.cell? ⟨w.heap.size + 1 + 1, 7, none⟩ = some (.int .u64 (ct : Nat))) ∧ (v.cell? ⟨w.heap.size + 1 + 1 + 1 + 1 + 1 + 1 + 1 + 1 + 1 + 1, 0, none⟩ = some (.int .u32 (t0 : Nat)) ∧ v.cell? ⟨w.heap.size + 1 + 1 + 1 + 1 + 1 + 1 + 1 + 1 + 1 + 1, 1, none⟩ = some (.int .u32 (t1 : Nat)) ∧ v.cell? ⟨w.heap.size + 1 + 1 + 1 + 1 + 1 + 1 + 1 + 1 + 1 + 1, 2, none⟩ = some (.int .u32 (t2 : Nat)) ∧ v.cell? ⟨w.heap.size + 1 + 1 + 1 + 1 + 1 + 1 + 1 + 1 + 1 + 1, 3, none⟩ = some (.int .u32 (t3 : Nat)) ∧ v.cell? ⟨w.heap.size + 1 + 1 + 1 + 1 + 1 + 1 + 1 + 1 + 1 + 1, 4, none⟩ = some (.int .u32 (t4 : Nat)) ∧ v.cell? ⟨w.heap.size + 1 + 1 + 1 + 1 + 1 + 1 + 1 + 1 + 1 + 1, 5, none⟩ = some (.int .u32 (t5 : Nat)) ∧ v.cell? ⟨w.heap.size + 1 + 1 + 1 + 1 + 1 + 1 + 1 + 1 + 1 + 1, 6, none⟩ = some (.int .u32 (t6 : Nat)) ∧ v.cell? ⟨w.heap.size + 1 + 1 + 1 + 1 + 1 + 1 + 1 + 1 + 1 + 1, 7, none⟩ = some (.int .u64 (t7 : Nat))) ∧ (v.cell? ⟨w.heap.size + 1 + 1 + 1 + 1 + 1 + 1 + 1 + 1 + 1 + 1 + 1 + 1 + 1, 0, none⟩ = some (.int .u32 (u0 : Nat)) ∧ v.cell? ⟨w.heap.size + 1 + 1 + 1 + 1 + 1 + 1 + 1 + 1 + 1 + 1 + 1 + 1 + 1, 1, none⟩ = some (.int .u32 (u1 : Nat)) ∧ v.cell? ⟨w.heap.size + 1 + 1 + 1 + 1 + 1 + 1 + 1 + 1 + 1 + 1 + 1 + 1 + 1, 2, none⟩ = some (.int .u32 (u2 : Nat)) ∧ v.cell? ⟨w.heap.size + 1 + 1 + 1 + 1 + 1 + 1 + 1 + 1 + 1 + 1 + 1 + 1 + 1, 3, none⟩ = some (.int .u32 (u3 : Nat)) ∧ v.cell? ⟨w.heap.size + 1 + 1 + 1 + 1 + 1 + 1 + 1 + 1 + 1 + 1 + 1 + 1 + 1, 4, none⟩ = some (.int .u32 (u4 : Nat)) ∧ v.cell? ⟨w.heap.size + 1 + 1 + 1 + 1 + 1 + 1 + 1 + 1 + 1 + 1 + 1 + 1 + 1, 5, none⟩ = some (.int .u32 (u5 : Nat)) ∧ v.cell? ⟨w.heap.size + 1 + 1 + 1 + 1 + 1 + 1 + 1 + 1 + 1 + 1 + 1 + 1 + 1, 6, none⟩ = some (.int .u32 (u6 : Nat)) ∧ v.cell? ⟨w.heap.size + 1 + 1 + 1 + 1 + 1 + 1 + 1 + 1 + 1 + 1 + 1 + 1 + 1, 7, none⟩ = some (.int .u64 (u7 : Nat))) ∧ (v.cell? ⟨w.heap.size + 1, 2, none⟩ = some (.int .u32 (v2 : Nat)) ∧ v.cell? ⟨w.heap.size + 1, 3, none⟩ = some (.int .u32 (v3 : Nat))) ∧ OrderAt v ∧ Below w.heap.size w v) HAL.out ?_ (HCM.out _ (by assumption) _)).mono ?_; (simp [*]); rintro e w6 ⟨rfl, ⟨c0, c1, c2, c3, c4, c5, c6, c7⟩, ⟨d0, d1, d2, d3, d4, d5, d6, d7⟩, ⟨f0, f1, f2, f3, f4, f5, f6, f7⟩, ⟨g2, g3⟩, hOr, hBe⟩) | (go_at_call 17; refine (Calls.al (S := fun v => (v.cell? ⟨w.heap.size + 1 + 1, 0, none⟩ = some (.int .u32 (st : Nat)) ∧ v.cell? ⟨w.heap.size + 1 + 1, 1, none⟩ = some (.int .u32 (en : Nat)) ∧ v.cell? ⟨w.heap.size + 1 + 1, 2, none⟩ = some (.int .u32 (ve : Nat)) ∧ v.cell? ⟨w.heap.size + 1 + 1, 3, none⟩ = some (.int .u32 (sc : Nat)) ∧ v.cell? ⟨w.heap.size + 1 + 1, 4, none⟩ = some (.int .u32 (ep : Nat)) ∧ v.cell? ⟨w.heap.size + 1 + 1, 5, none⟩ = some (.int .u32 (ca : Nat)) ∧ v.cell? ⟨w.heap.size + 1 + 1, 6, none⟩ = some (.int .u32 (va : Nat)) ∧ v.cell? ⟨w.heap.size + 1 + 1, 7, none⟩ = some (.int .u64 (ct : Nat))) ∧ (v.cell? ⟨w.heap.size + 1 + 1 + 1 + 1 + 1 + 1 + 1 + 1 + 1 + 1, 0, none⟩ = some (.int .u32 (t0 : Nat)) ∧ v.cell? ⟨w.heap.size + 1 + 1 + 1 + 1 + 1 + 1 + 1 + 1 + 1 + 1, 1, none⟩ = some (.int .u32 (t1 : Nat)) ∧ v.cell? ⟨w.heap.size + 1 + 1 + 1 + 1 + 1 + 1 + 1 + 1 + 1 + 1, 2, none⟩ = some (.int .u32 (t2 : Nat)) ∧ v.cell? ⟨w.heap.size + 1 + 1 + 1 + 1 + 1 + 1 + 1 + 1 + 1 + 1, 3, none⟩ = some (.int .u32 (t3 : Nat)) ∧ v.cell? ⟨w.heap.size + 1 + 1 + 1 + 1 + 1 + 1 + 1 + 1 + 1 + 1, 4, none⟩ = some (.int .u32 (t4 : Nat)) ∧ v.cell? ⟨w.heap.size + 1 + 1 + 1 + 1 + 1 + 1 + 1 + 1 + 1 + 1, 5, none⟩ = some (.int .u32 (t5 : Nat)) ∧ v.cell? ⟨w.heap.size + 1 + 1 + 1 + 1 + 1 + 1 + 1 + 1 + 1 + 1, 6, none⟩ = some (.int .u32 (t6 : Nat)) ∧ v.cell? ⟨w.heap.size + 1 + 1 + 1 + 1 + 1 + 1 + 1 + 1 + 1 + 1, 7, none⟩ = some (.int .u64 (t7 : Nat))) ∧ (v.cell? ⟨w.heap.size + 1 + 1 + 1 + 1 + 1 + 1 + 1 + 1 + 1 + 1 + 1 + 1 + 1, 0, none⟩ = some (.int .u32 (u0 : Nat)) ∧ v.cell? ⟨w.heap.size + 1 + 1 + 1 + 1 + 1 + 1 + 1 + 1 + 1 + 1 + 1 + 1 + 1, 1, none⟩ = some (.int .u32 (u1 : Nat)) ∧ v.cell? ⟨w.heap.size + 1 + 1 + 1 + 1 + 1 + 1 + 1 + 1 + 1 + 1 + 1 + 1 + 1, 2, none⟩ = some (.int .u32 (u2 : Nat)) ∧ v.cell? ⟨w.heap.size + 1 + 1 + 1 + 1 + 1 + 1 + 1 + 1 + 1 + 1 + 1 + 1 + 1, 3, none⟩ = some (.int .u32 (u3 : Nat)) ∧ v.cell? ⟨w.heap.size + 1 + 1 + 1 + 1 + 1 + 1 + 1 + 1 + 1 + 1 + 1 + 1 + 1, 4, none⟩ = some (.int .u32 (u4 : Nat)) ∧ v.cell? ⟨w.heap.size + 1 + 1 + 1 + 1 + 1 + 1 + 1 + 1 + 1 + 1 + 1 + 1 + 1, 5, none⟩ = some (.int .u32 (u5 : Nat)) ∧ v.cell? ⟨w.heap.size + 1 + 1 + 1 + 1 + 1 + 1 + 1 + 1 + 1 + 1 + 1 + 1 + 1, 6, none⟩ = some (.int .u32 (u6 : Nat)) ∧ v.cell? ⟨w.heap.size + 1 + 1 + 1 + 1 + 1 + 1 + 1 + 1 + 1 + 1 + 1 + 1 + 1, 7, none⟩ = some (.int .u64 (u7 : Nat))) ∧ (v.cell? ⟨w.heap.size + 1, 2, none⟩ = some (.int .u32 (v2 : Nat)) ∧ v.cell? ⟨w.heap.size + 1, 3, none⟩ = some (.int .u32 (v3 : Nat))) ∧ OrderAt v ∧ Below w.heap.size w v) HAL.out ?_ (HA.out _ _ (by assumption) _ (by assumption))).mono ?_; (simp [*]); rintro e w6 ⟨rfl, ⟨c0, c1, c2, c3, c4, c5, c6, c7⟩, ⟨d0, d1, d2, d3, d4, d5, d6, d7⟩, ⟨f0, f1, f2, f3, f4, f5, f6, f7⟩, ⟨g2, g3⟩, hOr, hBe⟩) | (go_at_call 12; refine (Calls.al3 (S := fun v => (v.cell? ⟨w.heap.size + 1 + 1, 0, none⟩ = some (.int .u32 (st : Nat)) ∧ v.cell? ⟨w.heap.size + 1 + 1, 1, none⟩ = some (.int .u32 (en : Nat)) ∧ v.cell? ⟨w.heap.size + 1 + 1, 2, none⟩ = some (.int .u32 (ve : Nat)) ∧ v.cell? ⟨w.heap.size + 1 + 1, 3, none⟩ = some (.int .u32 (sc : Nat)) ∧ v.cell? ⟨w.heap.size + 1 + 1, 4, none⟩ = some (.int .u32 (ep : Nat)) ∧ v.cell? ⟨w.heap.size + 1 + 1, 5, none⟩ = some (.int .u32 (ca : Nat)) ∧ v.cell? ⟨w.heap.size + 1 + 1, 6, none⟩ = some (.int .u32 (va : Nat)) ∧ v.cell? ⟨w.heap.size + 1 + 1, 7, none⟩ = some (.int .u64 (ct : Nat))) ∧ (v.cell? ⟨w.heap.size + 1 + 1 + 1 + 1 + 1 + 1 + 1 + 1 + 1 + 1, 0, none⟩ = some (.int .u32 (t0 : Nat)) ∧ v.cell? ⟨w.heap.size + 1 + 1 + 1 + 1 + 1 + 1 + 1 + 1 + 1 + 1, 1, none⟩ = some (.int .u32 (t1 : Nat)) ∧ v.cell? ⟨w.heap.size + 1 + 1 + 1 + 1 + 1 + 1 + 1 + 1 + 1 + 1, 2, none⟩ = some (.int .u32 (t2 : Nat)) ∧ v.cell? ⟨w.heap.size + 1 + 1 + 1 + 1 + 1 + 1 + 1 + 1 + 1 + 1, 3, none⟩ = some (.int .u32 (t3 : Nat)) ∧ v.cell? ⟨w.heap.size + 1 + 1 + 1 + 1 + 1 + 1 + 1 + 1 + 1 + 1, 4, none⟩ = some (.int .u32 (t4 : Nat)) ∧ v.cell? ⟨w.heap.size + 1 + 1 + 1 + 1 + 1 + 1 + 1 + 1 + 1 + 1, 5, none⟩ = some (.int .u32 (t5 : Nat)) ∧ v.cell? ⟨w.heap.size + 1 + 1 + 1 + 1 + 1 + 1 + 1 + 1 + 1 + 1, 6, none⟩ = some (.int .u32 (t6 : Nat)) ∧ v.cell? ⟨w.heap.size + 1 + 1 + 1 + 1 + 1 + 1 + 1 + 1 + 1 + 1, 7, none⟩ = some (.int .u64 (t7 : Nat))) ∧ (v.cell? ⟨w.heap.size + 1 + 1 + 1 + 1 + 1 + 1 + 1 + 1 + 1 + 1 + 1 + 1 + 1, 0, none⟩ = some (.int .u32 (u0 : Nat)) ∧ v.cell? ⟨w.heap.size + 1 + 1 + 1 + 1 + 1 + 1 + 1 + 1 + 1 + 1 + 1 + 1 + 1, 1, none⟩ = some (.int .u32 (u1 : Nat)) ∧ v.cell? ⟨w.heap.size + 1 + 1 + 1 + 1 + 1 + 1 + 1 + 1 + 1 + 1 + 1 + 1 + 1, 2, none⟩ = some (.int .u32 (u2 : Nat)) ∧ v.cell? ⟨w.heap.size + 1 + 1 + 1 + 1 + 1 + 1 + 1 + 1 + 1 + 1 + 1 + 1 + 1, 3, none⟩ = some (.int .u32 (u3 : Nat)) ∧ v.cell? ⟨w.heap.size + 1 + 1 + 1 + 1 + 1 + 1 + 1 + 1 + 1 + 1 + 1 + 1 + 1, 4, none⟩ = some (.int .u32 (u4 : Nat)) ∧ v.cell? ⟨w.heap.size + 1 + 1 + 1 + 1 + 1 + 1 + 1 + 1 + 1 + 1 + 1 + 1 + 1, 5, none⟩ = some (.int .u32 (u5 : Nat)) ∧ v.cell? ⟨w.heap.size + 1 + 1 + 1 + 1 + 1 + 1 + 1 + 1 + 1 + 1 + 1 + 1 + 1, 6, none⟩ = some (.int .u32 (u6 : Nat)) ∧ v.cell? ⟨w.heap.size + 1 + 1 + 1 + 1 + 1 + 1 + 1 + 1 + 1 + 1 + 1 + 1 + 1, 7, none⟩ = some (.int .u64 (u7 : Nat))) ∧ (v.cell? ⟨w.heap.size + 1, 2, none⟩ = some (.int .u32 (v2 : Nat)) ∧ v.cell? ⟨w.heap.size + 1, 3, none⟩ = some (.int .u32 (v3 : Nat))) ∧ OrderAt v ∧ Below w.heap.size w v) HAL.out ?_ (HS.out _)).mono ?_; (simp [*]); rintro e w6 ⟨rfl, ⟨c0, c1, c2, c3, c4, c5, c6, c7⟩, ⟨d0, d1, d2, d3, d4, d5, d6, d7⟩, ⟨f0, f1, f2, f3, f4, f5, f6, f7⟩, ⟨g2, g3⟩, hOr, hBe⟩))
  go_wp2
  go_ret
  exact ⟨rfl, hBe⟩
set_option maxHeartbeats 2000000 in
theorem holds_err (s : S8) (hs : s.Ok) (a : Int) (v0 v1 v2 v3 : Nat) (h0 : v0 < 4294967296) (h1 : v1 < 4294967296) (h2 : v2 < 4294967296) (h3 : v3 < 4294967296) (w : World) (hO : OrderAt w) (hm : mayB s = true) (k : Nat) (hw : (writeN s a v0).2 = k + 1) :
    Calls Tryd.prog 6 #[.agg s.cells, .int .i64 a, .agg #[.int .u32 v0, .int .u32 v1, .int .u32 v2, .int .u32 v3]] w fun e w' => e = .returned (.bool true) ∧ Below w.heap.size w w' := by
  have HC1 := hide (check_yes s hs hm)
  have HW := hide (write_any s hs a v0 h0)
  rw [hw] at HW
  have HT := hide (trap_any s hs v0 v1 v2 h0 h2)
  have ht := trapN_ok hs h0 h1 h2
  have hmt := may_trap s hs hm v0 v1 v2
  have HR := hide (return_any _ ht)
  have m3 : May (.agg (trapN s v0 v1 v2).cells) := ⟨_, ht, hmt, rfl⟩
  have m4 : May (.agg (retN (trapN s v0 v1 v2)).cells) := ⟨_, retN_ok ht, may_ret _ ht hmt, rfl⟩
  have a1 : Ask v3 (.agg s.cells) (asksN s.st s.en v3) := ⟨_, hs, rfl, rfl⟩
  have a2 : Ask v3 (.agg (trapN s v0 v1 v2).cells) 0 := ⟨_, ht, asks_trap _ _ _ hs.st, rfl⟩
  have a3 : Ask v3 (.agg (retN (trapN s v0 v1 v2)).cells) (asksN s.st s.en v3) := ⟨_, retN_ok ht, asks_ret _ _ _ hs.st, rfl⟩
  have HA := hide (asks_ask v3 h3)
  have HCM := hide check_may
  have HE : bits .andNot .u32 (v2 : Int) 3 = ((v2 &&& 4294967292 : Nat) : Int) := u32_andNot_nat v2 3 h2 (by decide)
  have ee : (trapN s v0 v1 v2).ep = v2 &&& 4294967292 := rfl
  rw [ee] at HR
  generalize v2 &&& 4294967292 = pe at *
  generalize asksN s.st s.en v3 = z at *
  generalize trapTo s.ve v0 = to at *
  generalize retN (trapN s v0 v1 v2) = u at *
  generalize trapN s v0 v1 v2 = t at *
  generalize (writeN s a v0).1 = y at *
  have HO := hide hO
  clear hO hs hm hw ht hmt ee h0 h1 h2 h3
  obtain ⟨st, en, ve, sc, ep, ca, va, ct⟩ := s
  obtain ⟨t0, t1, t2, t3, t4, t5, t6, t7⟩ := t
  obtain ⟨u0, u1, u2, u3, u4, u5, u6, u7⟩ := u
  obtain ⟨y0, y1, y2, y3, y4, y5, y6, y7⟩ := y
  have HS := hide sure_any
  simp only [S8.cells, errW] at HC1 HW HT HR m3 m4 a1 a2 a3 ⊢
  go_enter Tryd.func6, Tryd.ntmps6
  go_wp2_with (fail)
  refine (HC1.out _).mono ?_
  rintro e w1 ⟨rfl, o1, rfl⟩
  go_wp2_with (fail)
  refine (HW.out _).mono ?_
  rintro e w2 ⟨rfl, o2, o3, rfl⟩
  go_wp2_with (fail)
  refine (HT.out _).mono ?_
  rintro e w4 ⟨rfl, o5, o6, rfl⟩
  go_wp2_with (fail)
  refine (HR.out _).mono ?_
  rintro e w5 ⟨rfl, o7, o8, hw5⟩
  have hx : EightAt w5 (w.heap.size + 1 + 1) ⟨st, en, ve, sc, ep, ca, va, ct⟩ := by
    rw [hw5]
    refine EightAt.dr ?_
    iterate 9 refine EightAt.al ?_ _
    exact EightAt.at _ st en ve sc ep ca va ct _ _ (by simp)
  have ht : EightAt w5 (w.heap.size + 1 + 1 + 1 + 1 + 1 + 1 + 1 + 1 + 1) ⟨t0, t1, t2, t3, t4, t5, t6, t7⟩ := by
    rw [hw5]
    refine EightAt.dr ?_
    iterate 2 refine EightAt.al ?_ _
    exact EightAt.at _ t0 t1 t2 t3 t4 t5 t6 t7 _ _ (by simp)
  have h2 : w5.cell? ⟨w.heap.size + 1, 2, none⟩ = some (.int .u32 (v2 : Nat)) := by
    rw [hw5]
    refine cell_dr ?_
    iterate 10 refine cell_al ?_ _
    exact (four_at _ v0 v1 v2 v3 _ _ (by simp)).1
  have h3 : w5.cell? ⟨w.heap.size + 1, 3, none⟩ = some (.int .u32 (v3 : Nat)) := by
    rw [hw5]
    refine cell_dr ?_
    iterate 10 refine cell_al ?_ _
    exact (four_at _ v0 v1 v2 v3 _ _ (by simp)).2
  have hO5 : OrderAt w5 := by
    rw [hw5]
    refine OrderAt.dr ?_
    iterate 12 refine OrderAt.al ?_ _
    exact HO.out
  have hB5 : Below w.heap.size w w5 := by
    rw [hw5]
    refine Below.drew ?_
    iterate 12 refine Below.alloc ?_ (by simp <;> omega) _
    exact Below.refl _ _
  have hz5 : w5.heap.size = w.heap.size + 1 + 1 + 1 + 1 + 1 + 1 + 1 + 1 + 1 + 1 + 1 + 1 := by rw [hw5]; simp
  clear hw5 HO
  have HX := hide hx
  have HTt := hide ht
  have H2 := hide h2
  have H3 := hide h3
  have HO5 := hide hO5
  have HB5 := hide hB5
  clear hx ht h2 h3 hO5 hB5
  have HAL : Hid (∀ w1 o, ((w1.cell? ⟨w.heap.size + 1 + 1, 0, none⟩ = some (.int .u32 (st : Nat)) ∧ w1.cell? ⟨w.heap.size + 1 + 1, 1, none⟩ = some (.int .u32 (en : Nat)) ∧ w1.cell? ⟨w.heap.size + 1 + 1, 2, none⟩ = some (.int .u32 (ve : Nat)) ∧ w1.cell? ⟨w.heap.size + 1 + 1, 3, none⟩ = some (.int .u32 (sc : Nat)) ∧ w1.cell? ⟨w.heap.size + 1 + 1, 4, none⟩ = some (.int .u32 (ep : Nat)) ∧ w1.cell? ⟨w.heap.size + 1 + 1, 5, none⟩ = some (.int .u32 (ca : Nat)) ∧ w1.cell? ⟨w.heap.size + 1 + 1, 6, none⟩ = some (.int .u32 (va : Nat)) ∧ w1.cell? ⟨w.heap.size + 1 + 1, 7, none⟩ = some (.int .u64 (ct : Nat))) ∧ (w1.cell? ⟨w.heap.size + 1 + 1 + 1 + 1 + 1 + 1 + 1 + 1 + 1, 0, none⟩ = some (.int .u32 (t0 : Nat)) ∧ w1.cell? ⟨w.heap.size + 1 + 1 + 1 + 1 + 1 + 1 + 1 + 1 + 1, 1, none⟩ = some (.int .u32 (t1 : Nat)) ∧ w1.cell? ⟨w.heap.size + 1 + 1 + 1 + 1 + 1 + 1 + 1 + 1 + 1, 2, none⟩ = some (.int .u32 (t2 : Nat)) ∧ w1.cell? ⟨w.heap.size + 1 + 1 + 1 + 1 + 1 + 1 + 1 + 1 + 1, 3, none⟩ = some (.int .u32 (t3 : Nat)) ∧ w1.cell? ⟨w.heap.size + 1 + 1 + 1 + 1 + 1 + 1 + 1 + 1 + 1, 4, none⟩ = some (.int .u32 (t4 : Nat)) ∧ w1.cell? ⟨w.heap.size + 1 + 1 + 1 + 1 + 1 + 1 + 1 + 1 + 1, 5, none⟩ = some (.int .u32 (t5 : Nat)) ∧ w1.cell? ⟨w.heap.size + 1 + 1 + 1 + 1 + 1 + 1 + 1 + 1 + 1, 6, none⟩ = some (.int .u32 (t6 : Nat)) ∧ w1.cell? ⟨w.heap.size + 1 + 1 + 1 + 1 + 1 + 1 + 1 + 1 + 1, 7, none⟩ = some (.int .u64 (t7 : Nat))) ∧ (w1.cell? ⟨w.heap.size + 1 + 1 + 1 + 1 + 1 + 1 + 1 + 1 + 1 + 1 + 1 + 1, 0, none⟩ = some (.int .u32 (u0 : Nat)) ∧ w1.cell? ⟨w.heap.size + 1 + 1 + 1 + 1 + 1 + 1 + 1 + 1 + 1 + 1 + 1 + 1, 1, none⟩ = some (.int .u32 (u1 : Nat)) ∧ w1.cell? ⟨w.heap.size + 1 + 1 + 1 + 1 + 1 + 1 + 1 + 1 + 1 + 1 + 1 + 1, 2, none⟩ = some (.int .u32 (u2 : Nat)) ∧ w1.cell? ⟨w.heap.size + 1 + 1 + 1 + 1 + 1 + 1 + 1 + 1 + 1 + 1 + 1 + 1, 3, none⟩ = some (.int .u32 (u3 : Nat)) ∧ w1.cell? ⟨w.heap.size + 1 + 1 + 1 + 1 + 1 + 1 + 1 + 1 + 1 + 1 + 1 + 1, 4, none⟩ = some (.int .u32 (u4 : Nat)) ∧ w1.cell? ⟨w.heap.size + 1 + 1 + 1 + 1 + 1 + 1 + 1 + 1 + 1 + 1 + 1 + 1, 5, none⟩ = some (.int .u32 (u5 : Nat)) ∧ w1.cell? ⟨w.heap.size + 1 + 1 + 1 + 1 + 1 + 1 + 1 + 1 + 1 + 1 + 1 + 1, 6, none⟩ = some (.int .u32 (u6 : Nat)) ∧ w1.cell? ⟨w.heap.size + 1 + 1 + 1 + 1 + 1 + 1 + 1 + 1 + 1 + 1 + 1 + 1, 7, none⟩ = some (.int .u64 (u7 : Nat))) ∧ (w1.cell? ⟨w.heap.size + 1, 2, none⟩ = some (.int .u32 (v2 : Nat)) ∧ w1.cell? ⟨w.heap.size + 1, 3, none⟩ = some (.int .u32 (v3 : Nat))) ∧ OrderAt w1 ∧ Below w.heap.size w w1) → (((World.alloc w1 o).cell? ⟨w.heap.size + 1 + 1, 0, none⟩ = some (.int .u32 (st : Nat)) ∧ (World.alloc w1 o).cell? ⟨w.heap.size + 1 + 1, 1, none⟩ = some (.int .u32 (en : Nat)) ∧ (World.alloc w1 o).cell? ⟨w.heap.size + 1 + 1, 2, none⟩ = some (.int .u32 (ve : Nat)) ∧ (World.alloc w1 o).cell? ⟨w.heap.size + 1 + 1, 3, none⟩ = some (.int .u32 (sc : Nat)) ∧ (World.alloc w1 o).cell? ⟨w.heap.size + 1 + 1, 4, none⟩ = some (.int .u32 (ep : Nat)) ∧ (World.alloc w1 o).cell? ⟨w.heap.size + 1 + 1, 5, none⟩ = some (.int .u32 (ca : Nat)) ∧ (World.alloc w1 o).cell? ⟨w.heap.size + 1 + 1, 6, none⟩ = some (.int .u32 (va : Nat)) ∧ (World.alloc w1 o).cell? ⟨w.heap.size + 1 + 1, 7, none⟩ = some (.int .u64 (ct : Nat))) ∧ ((World.alloc w1 o).cell? ⟨w.heap.size + 1 + 1 + 1 + 1 + 1 + 1 + 1 + 1 + 1, 0, none⟩ = some (.int .u32 (t0 : Nat)) ∧ (World.alloc w1 o).cell? ⟨w.heap.size + 1 + 1 + 1 + 1 + 1 + 1 + 1 + 1 + 1, 1, none⟩ = some (.int .u32 (t1 : Nat)) ∧ (World.alloc w1 o).cell? ⟨w.heap.size + 1 + 1 + 1 + 1 + 1 + 1 + 1 + 1 + 1, 2, none⟩ = some (.int .u32 (t2 : Nat)) ∧ (World.alloc w1 o).cell? ⟨w.heap.size + 1 + 1 + 1 + 1 + 1 + 1 + 1 + 1 + 1, 3, none⟩ = some (.int .u32 (t3 : Nat)) ∧ (World.alloc w1 o).cell? ⟨w.heap.size + 1 + 1 + 1 + 1 + 1 + 1 + 1 + 1 + 1, 4, none⟩ = some (.int .u32 (t4 : Nat)) ∧ (World.alloc w1 o).cell? ⟨w.heap.size + 1 + 1 + 1 + 1 + 1 + 1 + 1 + 1 + 1, 5, none⟩ = some (.int .u32 (t5 : Nat)) ∧ (World.alloc w1 o).cell? ⟨w.heap.size + 1 + 1 + 1 + 1 + 1 + 1 + 1 + 1 + 1, 6, none⟩ = some (.int .u32 (t6 : Nat)) ∧ (World.alloc w1 o).cell? ⟨w.heap.size + 1 + 1 + 1 + 1 + 1 + 1 + 1 + 1 + 1, 7, none⟩ = some (.int .u64 (t7 : Nat))) ∧ ((World.alloc w1 o).cell? ⟨w.heap.size + 1 + 1 + 1 + 1 + 1 + 1 + 1 + 1 + 1 + 1 + 1 + 1, 0, none⟩ = some (.int .u32 (u0 : Nat)) ∧ (World.alloc w1 o).cell? ⟨w.heap.size + 1 + 1 + 1 + 1 + 1 + 1 + 1 + 1 + 1 + 1 + 1 + 1, 1, none⟩ = some (.int .u32 (u1 : Nat)) ∧ (World.alloc w1 o).cell? ⟨w.heap.size + 1 + 1 + 1 + 1 + 1 + 1 + 1 + 1 + 1 + 1 + 1 + 1, 2, none⟩ = some (.int .u32 (u2 : Nat)) ∧ (World.alloc w1 o).cell? ⟨w.heap.size + 1 + 1 + 1 + 1 + 1 + 1 + 1 + 1 + 1 + 1 + 1 + 1, 3, none⟩ = some (.int .u32 (u3 : Nat)) ∧ (World.alloc w1 o).cell? ⟨w.heap.size + 1 + 1 + 1 + 1 + 1 + 1 + 1 + 1 + 1 + 1 + 1 + 1, 4, none⟩ = some (.int .u32 (u4 : Nat)) ∧ (World.alloc w1 o).cell? ⟨w.heap.size + 1 + 1 + 1 + 1 + 1 + 1 + 1 + 1 + 1 + 1 + 1 + 1, 5, none⟩ = some (.int .u32 (u5 : Nat)) ∧ (World.alloc w1 o).cell? ⟨w.heap.size + 1 + 1 + 1 + 1 + 1 + 1 + 1 + 1 + 1 + 1 + 1 + 1, 6, none⟩ = some (.int .u32 (u6 : Nat)) ∧ (World.alloc w1 o).cell? ⟨w.heap.size + 1 + 1 + 1 + 1 + 1 + 1 + 1 + 1 + 1 + 1 + 1 + 1, 7, none⟩ = some (.int .u64 (u7 : Nat))) ∧ ((World.alloc w1 o).cell? ⟨w.heap.size + 1, 2, none⟩ = some (.int .u32 (v2 : Nat)) ∧ (World.alloc w1 o).cell? ⟨w.heap.size + 1, 3, none⟩ = some (.int .u32 (v3 : Nat))) ∧ OrderAt (World.alloc w1 o) ∧ Below w.heap.size w (World.alloc w1 o))) := hide fun w1 o ⟨hx, ht, hu, h23, hor, hbe⟩ => ⟨EightAt.al (s := ⟨st, en, ve, sc, ep, ca, va, ct⟩) hx o, EightAt.al (s := ⟨t0, t1, t2, t3, t4, t5, t6, t7⟩) ht o, EightAt.al (s := ⟨u0, u1, u2, u3, u4, u5, u6, u7⟩) hu o, ⟨cell_al h23.1 o, cell_al h23.2 o⟩, hor.al o, hbe.alloc hbe.size o⟩
  go_wp2_with (fail)
  obtain ⟨W, hW⟩ : ∃ W, w5.alloc (.cells #[.int .u32 u0, .int .u32 u1, .int .u32 u2, .int .u32 u3, .int .u32 u4, .int .u32 u5, .int .u32 u6, .int .u64 u7] 26) = W := ⟨_, rfl⟩
  have hxW := hW ▸ HX.out.al (.cells #[.int .u32 u0, .int .u32 u1, .int .u32 u2, .int .u32 u3, .int .u32 u4, .int .u32 u5, .int .u32 u6, .int .u64 u7] 26)
  have htW := hW ▸ HTt.out.al (.cells #[.int .u32 u0, .int .u32 u1, .int .u32 u2, .int .u32 u3, .int .u32 u4, .int .u32 u5, .int .u32 u6, .int .u64 u7] 26)
  have huW := hW ▸ EightAt.at w5 u0 u1 u2 u3 u4 u5 u6 u7 (w.heap.size + 1 + 1 + 1 + 1 + 1 + 1 + 1 + 1 + 1 + 1 + 1 + 1) 26 hz5
  have g2 := hW ▸ cell_al H2.out (.cells #[.int .u32 u0, .int .u32 u1, .int .u32 u2, .int .u32 u3, .int .u32 u4, .int .u32 u5, .int .u32 u6, .int .u64 u7] 26)
  have g3 := hW ▸ cell_al H3.out (.cells #[.int .u32 u0, .int .u32 u1, .int .u32 u2, .int .u32 u3, .int .u32 u4, .int .u32 u5, .int .u32 u6, .int .u64 u7] 26)
  have hOr : OrderAt W := hW ▸ HO5.out.al _
  have hBe : Below w.heap.size w W := hW ▸ HB5.out.alloc HB5.out.size _
  rw [hW]
  clear hW HX HTt H2 H3 HO5 HB5 hz5
  obtain ⟨c0, c1, c2, c3, c4, c5, c6, c7⟩ := hxW
  obtain ⟨d0, d1, d2, d3, d4, d5, d6, d7⟩ := htW
  obtain ⟨f0, f1, f2, f3, f4, f5, f6, f7⟩ := huW
  simp only at c0 c1 c2 c3 c4 c5 c6 c7 d0 d1 d2 d3 d4 d5 d6 d7 f0 f1 f2 f3 f4 f5 f6 f7
  have hOrd := hOr.dr
  have hBed := hBe.drew
  go_region_held3 (fun w' => (w'.cell? ⟨w.heap.size + 1 + 1, 0, none⟩ = some (.int .u32 (st : Nat)) ∧ w'.cell? ⟨w.heap.size + 1 + 1, 1, none⟩ = some (.int .u32 (en : Nat)) ∧ w'.cell? ⟨w.heap.size + 1 + 1, 2, none⟩ = some (.int .u32 (ve : Nat)) ∧ w'.cell? ⟨w.heap.size + 1 + 1, 3, none⟩ = some (.int .u32 (sc : Nat)) ∧ w'.cell? ⟨w.heap.size + 1 + 1, 4, none⟩ = some (.int .u32 (ep : Nat)) ∧ w'.cell? ⟨w.heap.size + 1 + 1, 5, none⟩ = some (.int .u32 (ca : Nat)) ∧ w'.cell? ⟨w.heap.size + 1 + 1, 6, none⟩ = some (.int .u32 (va : Nat)) ∧ w'.cell? ⟨w.heap.size + 1 + 1, 7, none⟩ = some (.int .u64 (ct : Nat))) ∧ (w'.cell? ⟨w.heap.size + 1 + 1 + 1 + 1 + 1 + 1 + 1 + 1 + 1, 0, none⟩ = some (.int .u32 (t0 : Nat)) ∧ w'.cell? ⟨w.heap.size + 1 + 1 + 1 + 1 + 1 + 1 + 1 + 1 + 1, 1, none⟩ = some (.int .u32 (t1 : Nat)) ∧ w'.cell? ⟨w.heap.size + 1 + 1 + 1 + 1 + 1 + 1 + 1 + 1 + 1, 2, none⟩ = some (.int .u32 (t2 : Nat)) ∧ w'.cell? ⟨w.heap.size + 1 + 1 + 1 + 1 + 1 + 1 + 1 + 1 + 1, 3, none⟩ = some (.int .u32 (t3 : Nat)) ∧ w'.cell? ⟨w.heap.size + 1 + 1 + 1 + 1 + 1 + 1 + 1 + 1 + 1, 4, none⟩ = some (.int .u32 (t4 : Nat)) ∧ w'.cell? ⟨w.heap.size + 1 + 1 + 1 + 1 + 1 + 1 + 1 + 1 + 1, 5, none⟩ = some (.int .u32 (t5 : Nat)) ∧ w'.cell? ⟨w.heap.size + 1 + 1 + 1 + 1 + 1 + 1 + 1 + 1 + 1, 6, none⟩ = some (.int .u32 (t6 : Nat)) ∧ w'.cell? ⟨w.heap.size + 1 + 1 + 1 + 1 + 1 + 1 + 1 + 1 + 1, 7, none⟩ = some (.int .u64 (t7 : Nat))) ∧ (w'.cell? ⟨w.heap.size + 1 + 1 + 1 + 1 + 1 + 1 + 1 + 1 + 1 + 1 + 1 + 1, 0, none⟩ = some (.int .u32 (u0 : Nat)) ∧ w'.cell? ⟨w.heap.size + 1 + 1 + 1 + 1 + 1 + 1 + 1 + 1 + 1 + 1 + 1 + 1, 1, none⟩ = some (.int .u32 (u1 : Nat)) ∧ w'.cell? ⟨w.heap.size + 1 + 1 + 1 + 1 + 1 + 1 + 1 + 1 + 1 + 1 + 1 + 1, 2, none⟩ = some (.int .u32 (u2 : Nat)) ∧ w'.cell? ⟨w.heap.size + 1 + 1 + 1 + 1 + 1 + 1 + 1 + 1 + 1 + 1 + 1 + 1, 3, none⟩ = some (.int .u32 (u3 : Nat)) ∧ w'.cell? ⟨w.heap.size + 1 + 1 + 1 + 1 + 1 + 1 + 1 + 1 + 1 + 1 + 1 + 1, 4, none⟩ = some (.int .u32 (u4 : Nat)) ∧ w'.cell? ⟨w.heap.size + 1 + 1 + 1 + 1 + 1 + 1 + 1 + 1 + 1 + 1 + 1 + 1, 5, none⟩ = some (.int .u32 (u5 : Nat)) ∧ w'.cell? ⟨w.heap.size + 1 + 1 + 1 + 1 + 1 + 1 + 1 + 1 + 1 + 1 + 1 + 1, 6, none⟩ = some (.int .u32 (u6 : Nat)) ∧ w'.cell? ⟨w.heap.size + 1 + 1 + 1 + 1 + 1 + 1 + 1 + 1 + 1 + 1 + 1 + 1, 7, none⟩ = some (.int .u64 (u7 : Nat))) ∧ (w'.cell? ⟨w.heap.size + 1, 2, none⟩ = some (.int .u32 (v2 : Nat)) ∧ w'.cell? ⟨w.heap.size + 1, 3, none⟩ = some (.int .u32 (v3 : Nat))) ∧ OrderAt w' ∧ Below w.heap.size w w') (go_keep)
    (first | (go_at_call 10; refine (Calls.al (S := fun v => (v.cell? ⟨w.heap.size + 1 + 1, 0, none⟩ = some (.int .u32 (st : Nat)) ∧ v.cell? ⟨w.heap.size + 1 + 1, 1, none⟩ = some (.int .u32 (en : Nat)) ∧ v.cell? ⟨w.heap.size + 1 + 1, 2, none⟩ = some (.int .u32 (ve : Nat)) ∧ v.cell? ⟨w.heap.size + 1 + 1, 3, none⟩ = some (.int .u32 (sc : Nat)) ∧ v.cell? ⟨w.heap.size + 1 + 1, 4, none⟩ = some (.int .u32 (ep : Nat)) ∧ v.cell? ⟨w.heap.size + 1 + 1, 5, none⟩ = some (.int .u32 (ca : Nat)) ∧ v.cell? ⟨w.heap.size + 1 + 1, 6, none⟩ = some (.int .u32 (va : Nat)) ∧ v.cell? ⟨w.heap.size + 1 + 1, 7, none⟩ = some (.int .u64 (ct : Nat))) ∧ (v.cell? ⟨w.heap.size + 1 + 1 + 1 + 1 + 1 + 1 + 1 + 1 + 1, 0, none⟩ = some (.int .u32 (t0 : Nat)) ∧ v.cell? ⟨w.heap.size + 1 + 1 + 1 + 1 + 1 + 1 + 1 + 1 + 1, 1, none⟩ = some (.int .u32 (t1 : Nat)) ∧ v.cell? ⟨w.heap.size + 1 + 1 + 1 + 1 + 1 + 1 + 1 + 1 + 1, 2, none⟩ = some (.int .u32 (t2 : Nat)) ∧ v.cell? ⟨w.heap.size + 1 + 1 + 1 + 1 + 1 + 1 + 1 + 1 + 1, 3, none⟩ = some (.int .u32 (t3 : Nat)) ∧ v.cell? ⟨w.heap.size + 1 + 1 + 1 + 1 + 1 + 1 + 1 + 1 + 1, 4, none⟩ = some (.int .u32 (t4 : Nat)) ∧ v.cell? ⟨w.heap.size + 1 + 1 + 1 + 1 + 1 + 1 + 1 + 1 + 1, 5, none⟩ = some (.int .u32 (t5 : Nat)) ∧ v.cell? ⟨w.heap.size + 1 + 1 + 1 + 1 + 1 + 1 + 1 + 1 + 1, 6, none⟩ = some (.int .u32 (t6 : Nat)) ∧ v.cell? ⟨w.heap.size + 1 + 1 + 1 + 1 + 1 + 1 + 1 + 1 + 1, 7, none⟩ = some (.int .u64 (t7 : Nat))) ∧ (v.cell? ⟨w.heap.size + 1 + 1 + 1 + 1 + 1 + 1 + 1 + 1 + 1 + 1 + 1 + 1, 0, none⟩ = some (.int .u32 (u0 : Nat)) ∧ v.cell? ⟨w.heap.size + 1 + 1 + 1 + 1 + 1 + 1 + 1 + 1 + 1 + 1 + 1 + 1, 1, none⟩ = some (.int .u32 (u1 : Nat)) ∧ v.cell? ⟨w.heap.size + 1 + 1 + 1 + 1 + 1 + 1 + 1 + 1 + 1 + 1 + 1 + 1, 2, none⟩ = some (.int .u32 (u2 : Nat)) ∧ v.cell? ⟨w.heap.size + 1 + 1 + 1 + 1 + 1 + 1 + 1 + 1 + 1 + 1 + 1 + 1, 3, none⟩ = some (.int .u32 (u3 : Nat)) ∧ v.cell? ⟨w.heap.size + 1 + 1 + 1 + 1 + 1 + 1 + 1 + 1 + 1 + 1 + 1 + 1, 4, none⟩ = some (.int .u32 (u4 : Nat)) ∧ v.cell? ⟨w.heap.size + 1 + 1 + 1 + 1 + 1 + 1 + 1 + 1 + 1 + 1 + 1 + 1, 5, none⟩ = some (.int .u32 (u5 : Nat)) ∧ v.cell? ⟨w.heap.size + 1 + 1 + 1 + 1 + 1 + 1 + 1 + 1 + 1 + 1 + 1 + 1, 6, none⟩ = some (.int .u32 (u6 : Nat)) ∧ v.cell? ⟨w.heap.size + 1 + 1 + 1 + 1 + 1 + 1 + 1 + 1 + 1 + 1 + 1 + 1, 7, none⟩ = some (.int .u64 (u7 : Nat))) ∧ (v.cell? ⟨w.heap.size + 1, 2, none⟩ = some (.int .u32 (v2 : Nat)) ∧ v.cell? ⟨w.heap.size + 1, 3, none⟩ = some (.int .u32 (v3 : Nat))) ∧ OrderAt v ∧ Below w.heap.size w v) HAL.out ?_ (HCM.out _ (by assumption) _)).mono ?_; (simp [*]); rintro e w6 ⟨rfl, ⟨c0, c1, c2, c3, c4, c5, c6, c7⟩, ⟨d0, d1, d2, d3, d4, d5, d6, d7⟩, ⟨f0, f1, f2, f3, f4, f5, f6, f7⟩, ⟨g2, g3⟩, hOr, hBe⟩) | (go_at_call 17; refine (Calls.al (S := fun v => (v.cell? ⟨w.heap.size + 1 + 1, 0, none⟩ = some (.int .u32 (st : Nat)) ∧ v.cell? ⟨w.heap.size + 1 + 1, 1, none⟩ = some (.int .u32 (en : Nat)) ∧ v.cell? ⟨w.heap.size + 1 + 1, 2, none⟩ = some (.int .u32 (ve : Nat)) ∧ v.cell? ⟨w.heap.size + 1 + 1, 3, none⟩ = some (.int .u32 (sc : Nat)) ∧ v.cell? ⟨w.heap.size + 1 + 1, 4, none⟩ = some (.int .u32 (ep : Nat)) ∧ v.cell? ⟨w.heap.size + 1 + 1, 5, none⟩ = some (.int .u32 (ca : Nat)) ∧ v.cell? ⟨w.heap.size + 1 + 1, 6, none⟩ = some (.int .u32 (va : Nat)) ∧ v.cell? ⟨w.heap.size + 1 + 1, 7, none⟩ = some (.int .u64 (ct : Nat))) ∧ (v.cell? ⟨w.heap.size + 1 + 1 + 1 + 1 + 1 + 1 + 1 + 1 + 1, 0, none⟩ = some (.int .u32 (t0 : Nat)) ∧ v.cell? ⟨w.heap.size + 1 + 1 + 1 + 1 + 1 + 1 + 1 + 1 + 1, 1, none⟩ = some (.int .u32 (t1 : Nat)) ∧ v.cell? ⟨w.heap.size + 1 + 1 + 1 + 1 + 1 + 1 + 1 + 1 + 1, 2, none⟩ = some (.int .u32 (t2 : Nat)) ∧ v.cell? ⟨w.heap.size + 1 + 1 + 1 + 1 + 1 + 1 + 1 + 1 + 1, 3, none⟩ = some (.int .u32 (t3 : Nat)) ∧ v.cell? ⟨w.heap.size + 1 + 1 + 1 + 1 + 1 + 1 + 1 + 1 + 1, 4, none⟩ = some (.int .u32 (t4 : Nat)) ∧ v.cell? ⟨w.heap.size + 1 + 1 + 1 + 1 + 1 + 1 + 1 + 1 + 1, 5, none⟩ = some (.int .u32 (t5 : Nat)) ∧ v.cell? ⟨w.heap.size + 1 + 1 + 1 + 1 + 1 + 1 + 1 + 1 + 1, 6, none⟩ = some (.int .u32 (t6 : Nat)) ∧ v.cell? ⟨w.heap.size + 1 + 1 + 1 + 1 + 1 + 1 + 1 + 1 + 1, 7, none⟩ = some (.int .u64 (t7 : Nat))) ∧ (v.cell? ⟨w.heap.size + 1 + 1 + 1 + 1 + 1 + 1 + 1 + 1 + 1 + 1 + 1 + 1, 0, none⟩ = some (.int .u32 (u0 : Nat)) ∧ v.cell? ⟨w.heap.size + 1 + 1 + 1 + 1 + 1 + 1 + 1 + 1 + 1 + 1 + 1 + 1, 1, none⟩ = some (.int .u32 (u1 : Nat)) ∧ v.cell? ⟨w.heap.size + 1 + 1 + 1 + 1 + 1 + 1 + 1 + 1 + 1 + 1 + 1 + 1, 2, none⟩ = some (.int .u32 (u2 : Nat)) ∧ v.cell? ⟨w.heap.size + 1 + 1 + 1 + 1 + 1 + 1 + 1 + 1 + 1 + 1 + 1 + 1, 3, none⟩ = some (.int .u32 (u3 : Nat)) ∧ v.cell? ⟨w.heap.size + 1 + 1 + 1 + 1 + 1 + 1 + 1 + 1 + 1 + 1 + 1 + 1, 4, none⟩ = some (.int .u32 (u4 : Nat)) ∧ v.cell? ⟨w.heap.size + 1 + 1 + 1 + 1 + 1 + 1 + 1 + 1 + 1 + 1 + 1 + 1, 5, none⟩ = some (.int .u32 (u5 : Nat)) ∧ v.cell? ⟨w.heap.size + 1 + 1 + 1 + 1 + 1 + 1 + 1 + 1 + 1 + 1 + 1 + 1, 6, none⟩ = some (.int .u32 (u6 : Nat)) ∧ v.cell? ⟨w.heap.size + 1 + 1 + 1 + 1 + 1 + 1 + 1 + 1 + 1 + 1 + 1 + 1, 7, none⟩ = some (.int .u64 (u7 : Nat))) ∧ (v.cell? ⟨w.heap.size + 1, 2, none⟩ = some (.int .u32 (v2 : Nat)) ∧ v.cell? ⟨w.heap.size + 1, 3, none⟩ = some (.int .u32 (v3 : Nat))) ∧ OrderAt v ∧ Below w.heap.size w v) HAL.out ?_ (HA.out _ _ (by assumption) _ (by assumption))).mono ?_; (simp [*]); rintro e w6 ⟨rfl, ⟨c0, c1, c2, c3, c4, c5, c6, c7⟩, ⟨d0, d1, d2, d3, d4, d5, d6, d7⟩, ⟨f0, f1, f2, f3, f4, f5, f6, f7⟩, ⟨g2, g3⟩, hOr, hBe⟩) | (go_at_call 12; refine (Calls.al3 (S := fun v => (v.cell? ⟨w.heap.size + 1 + 1, 0, none⟩ = some (.int .u32 (st : Nat)) ∧ v.cell? ⟨w.heap.size + 1 + 1, 1, none⟩ = some (.int .u32 (en : Nat)) ∧ v.cell? ⟨w.heap.size + 1 + 1, 2, none⟩ = some (.int .u32 (ve : Nat)) ∧ v.cell? ⟨w.heap.size + 1 + 1, 3, none⟩ = some (.int .u32 (sc : Nat)) ∧ v.cell? ⟨w.heap.size + 1 + 1, 4, none⟩ = some (.int .u32 (ep : Nat)) ∧ v.cell? ⟨w.heap.size + 1 + 1, 5, none⟩ = some (.int .u32 (ca : Nat)) ∧ v.cell? ⟨w.heap.size + 1 + 1, 6, none⟩ = some (.int .u32 (va : Nat)) ∧ v.cell? ⟨w.heap.size + 1 + 1, 7, none⟩ = some (.int .u64 (ct : Nat))) ∧ (v.cell? ⟨w.heap.size + 1 + 1 + 1 + 1 + 1 + 1 + 1 + 1 + 1, 0, none⟩ = some (.int .u32 (t0 : Nat)) ∧ v.cell? ⟨w.heap.size + 1 + 1 + 1 + 1 + 1 + 1 + 1 + 1 + 1, 1, none⟩ = some (.int .u32 (t1 : Nat)) ∧ v.cell? ⟨w.heap.size + 1 + 1 + 1 + 1 + 1 + 1 + 1 + 1 + 1, 2, none⟩ = some (.int .u32 (t2 : Nat)) ∧ v.cell? ⟨w.heap.size + 1 + 1 + 1 + 1 + 1 + 1 + 1 + 1 + 1, 3, none⟩ = some (.int .u32 (t3 : Nat)) ∧ v.cell? ⟨w.heap.size + 1 + 1 + 1 + 1 + 1 + 1 + 1 + 1 + 1, 4, none⟩ = some (.int .u32 (t4 : Nat)) ∧ v.cell? ⟨w.heap.size + 1 + 1 + 1 + 1 + 1 + 1 + 1 + 1 + 1, 5, none⟩ = some (.int .u32 (t5 : Nat)) ∧ v.cell? ⟨w.heap.size + 1 + 1 + 1 + 1 + 1 + 1 + 1 + 1 + 1, 6, none⟩ = some (.int .u32 (t6 : Nat)) ∧ v.cell? ⟨w.heap.size + 1 + 1 + 1 + 1 + 1 + 1 + 1 + 1 + 1, 7, none⟩ = some (.int .u64 (t7 : Nat))) ∧ (v.cell? ⟨w.heap.size + 1 + 1 + 1 + 1 + 1 + 1 + 1 + 1 + 1 + 1 + 1 + 1, 0, none⟩ = some (.int .u32 (u0 : Nat)) ∧ v.cell? ⟨w.heap.size + 1 + 1 + 1 + 1 + 1 + 1 + 1 + 1 + 1 + 1 + 1 + 1, 1, none⟩ = some (.int .u32 (u1 : Nat)) ∧ v.cell? ⟨w.heap.size + 1 + 1 + 1 + 1 + 1 + 1 + 1 + 1 + 1 + 1 + 1 + 1, 2, none⟩ = some (.int .u32 (u2 : Nat)) ∧ v.cell? ⟨w.heap.size + 1 + 1 + 1 + 1 + 1 + 1 + 1 + 1 + 1 + 1 + 1 + 1, 3, none⟩ = some (.int .u32 (u3 : Nat)) ∧ v.cell? ⟨w.heap.size + 1 + 1 + 1 + 1 + 1 + 1 + 1 + 1 + 1 + 1 + 1 + 1, 4, none⟩ = some (.int .u32 (u4 : Nat)) ∧ v.cell? ⟨w.heap.size + 1 + 1 + 1 + 1 + 1 + 1 + 1 + 1 + 1 + 1 + 1 + 1, 5, none⟩ = some (.int .u32 (u5 : Nat)) ∧ v.cell? ⟨w.heap.size + 1 + 1 + 1 + 1 + 1 + 1 + 1 + 1 + 1 + 1 + 1 + 1, 6, none⟩ = some (.int .u32 (u6 : Nat)) ∧ v.cell? ⟨w.heap.size + 1 + 1 + 1 + 1 + 1 + 1 + 1 + 1 + 1 + 1 + 1 + 1, 7, none⟩ = some (.int .u64 (u7 : Nat))) ∧ (v.cell? ⟨w.heap.size + 1, 2, none⟩ = some (.int .u32 (v2 : Nat)) ∧ v.cell? ⟨w.heap.size + 1, 3, none⟩ = some (.int .u32 (v3 : Nat))) ∧ OrderAt v ∧ Below w.heap.size w v) HAL.out ?_ (HS.out _)).mono ?_; (simp [*]); rintro e w6 ⟨rfl, ⟨c0, c1, c2, c3, c4, c5, c6, c7⟩, ⟨d0, d1, d2, d3, d4, d5, d6, d7⟩, ⟨f0, f1, f2, f3, f4, f5, f6, f7⟩, ⟨g2, g3⟩, hOr, hBe⟩))
  go_wp2
  go_ret
  exact ⟨rfl, hBe⟩
theorem holds_walk (s : S8) (hs : s.Ok) (a : Int) (v0 v1 v2 v3 : Nat) (h0 : v0 < 4294967296) (h1 : v1 < 4294967296) (h2 : v2 < 4294967296) (h3 : v3 < 4294967296) (w : World) (hO : OrderAt w) :
    Calls Tryd.prog 6 #[.agg s.cells, .int .i64 a, .agg #[.int .u32 v0, .int .u32 v1, .int .u32 v2, .int .u32 v3]] w fun e w' => e = .returned (.bool true) ∧ Below w.heap.size w w' := by
  cases hm : mayB s with
  | false => exact holds_no s hs a v0 v1 v2 v3 w hm
  | true =>
    cases hw : (writeN s a v0).2 with
    | zero => exact holds_yes s hs a v0 v1 v2 v3 h0 h1 h2 h3 w hO hm hw
    | succ k => exact holds_err s hs a v0 v1 v2 v3 h0 h1 h2 h3 w hO hm k hw
end Go.Proofs.YtcfemoajddfiiaaDoor
