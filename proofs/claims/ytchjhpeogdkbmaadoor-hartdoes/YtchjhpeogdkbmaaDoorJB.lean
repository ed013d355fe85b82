/-
  What the document's Return answers.
-/
import Derived.Test.YtchjhpeogdkbmaaDoorJA
import Derived.Test.YtchjhpeogdkbmaaDoorCsMath
import Derived.Deep.RegionHeld3
import Derived.Test.YtchjhpeogdkbmaaDoorHCsProg
import Derived.Deep.RegionWith
import Derived.Deep.DrawnRows
import Derived.Deep.QuietTactic
import Derived.BigQuiet
namespace Go.Proofs.YtchjhpeogdkbmaaDoor
open Go.RowKit
set_option linter.unusedVariables false

/-- Block b holds the numbers of l. -/
def IntsAt (w : World) (b : Nat) (l : List Nat) : Prop := b < w.heap.size ∧ ∀ j (h : j < l.length), w.cell? ⟨b, j, none⟩ = some (.int .i64 (l[j] : Nat))
theorem IntsAt.below {w w' : World} {b n : Nat} {l : List Nat} (h : IntsAt w b l) (hn : b < n) (hb : Below n w w') : IntsAt w' b l :=
  ⟨Nat.lt_of_lt_of_le h.1 hb.size, fun j hj => (hb.cell (p := ⟨b, j, none⟩) hn).trans (h.2 j hj)⟩

/-- What a call leaves: all that lay. -/
def OffW (w0 : World) (n : Nat) (w : World) : Prop := Below n w0 w ∧ w0.heap.size = n
theorem OffW.step {w0 a b : World} {n : Nat} (h : OffW w0 n a) (k : Below a.heap.size a b) : OffW w0 n b := ⟨h.1.trans (k.mono (by rw [← h.2]; exact h.1.size)), h.2⟩
theorem OffW.drew {w0 a : World} {n : Nat} (h : OffW w0 n a) : OffW w0 n a.drew := ⟨h.1.drew, h.2⟩
theorem OffW.cell {w0 a b : World} {n g j : Nat} {c : Value} (h : OffW w0 n a) (k : Below a.heap.size a b) (hg : g < n) (hc : a.cell? ⟨g, j, none⟩ = some c) : b.cell? ⟨g, j, none⟩ = some c :=
  (k.cell (p := ⟨g, j, none⟩) (Nat.lt_of_lt_of_le hg (by rw [← h.2]; exact h.1.size))).trans hc
theorem Calls.one {P : Program} {f : Nat} {args : Array Value} {g j n : Nat} {w0 w1 : World} {c r : Value} (hg : g < n)
    (hs : w1.cell? ⟨g, j, none⟩ = some c ∧ OffW w0 n w1)
    (h : Calls P f args w1 fun e w2 => e = .returned r ∧ Below w1.heap.size w1 w2) :
    Calls P f args w1 fun e w2 => e = .returned r ∧ w2.cell? ⟨g, j, none⟩ = some c ∧ OffW w0 n w2 :=
  h.mono fun e w2 ⟨he, hb⟩ => ⟨he, hs.2.cell hb hg hs.1, hs.2.step hb⟩

theorem rset_one (a : Nat) (ha : a < 4294967296) (lo x : Nat) (hx : x < 4294967296) (w : World) :
    Calls Tryd.prog 90 #[.int .u32 a, .int .i64 lo, .int .i64 1, .int .u32 x] w fun e w' => e = .returned (.int .u32 (setOne a lo x : Nat)) ∧ Below w.heap.size w w' := by
  unfold setOne
  exact refset_any a ha lo 1 (by omega) (by omega) x hx w
theorem rset_zero (a : Nat) (ha : a < 4294967296) (lo : Nat) (w : World) :
    Calls Tryd.prog 90 #[.int .u32 a, .int .i64 lo, .int .i64 1, .int .u32 0] w fun e w' => e = .returned (.int .u32 (setOne a lo 0 : Nat)) ∧ Below w.heap.size w w' := rset_one a ha lo 0 (by decide) w
theorem rfld_one (v : Nat) (hv : v < 4294967296) (lo : Nat) (w : World) :
    Calls Tryd.prog 91 #[.int .u32 v, .int .i64 lo, .int .i64 1] w fun e w' => e = .returned (.int .u32 (fldOne v lo : Nat)) ∧ Below w.heap.size w w' := by
  unfold fldOne
  exact reffield_any v hv lo 1 w

theorem butL_take (v : Nat) (l : List Nat) (k : Nat) (h : k < l.length) : butL v (l.take (k + 1)) = setOne (butL v (l.take k)) l[k] 0 := by
  unfold butL
  rw [List.take_add_one, List.foldl_append, List.getElem?_eq_getElem h, Option.toList_some, List.foldl_cons, List.foldl_nil]
theorem butL_lt (v : Nat) (hv : v < 4294967296) (l : List Nat) : ∀ k, butL v (l.take k) < 4294967296
  | 0 => hv
  | k + 1 => by
    by_cases h : k < l.length
    · rw [butL_take v l k h]; exact setOne_lt _ _ _
    · rw [List.take_of_length_le (by omega), ← List.take_of_length_le (i := k) (l := l) (by omega)]; exact butL_lt v hv l k
end Go.Proofs.YtchjhpeogdkbmaaDoor
namespace Go.Proofs.YtchjhpeogdkbmaaDoor
open Go.RowKit
set_option linter.unusedVariables false

set_option maxHeartbeats 1000000 in
set_option maxRecDepth 100000 in
theorem rbut_any (v : Nat) (hv : v < 4294967296) (l : List Nat) (hn : l.length < 100) (b : Nat) (w : World) (hc : IntsAt w b l) :
    Calls Tryd.prog 79 #[.int .u32 v, .slice (some ⟨b, 0, none⟩) l.length l.length] w fun e w' => e = .returned (.int .u32 (butL v l : Nat)) ∧ Below w.heap.size w w' := by
  have HS := hide rset_zero
  have HC := hide hc
  clear hc
  go_enter Tryd.func79, Tryd.ntmps79
  go_wp2
  go_loopw [0, 5] (fun o i wr => ∃ k : Nat, k ≤ l.length ∧ i = .int .i64 k ∧ o = .int .u32 (butL v (l.take k) : Nat) ∧ Below w.heap.size w wr) (fun _ i _ => l.length - (intOf i).toNat)
  case atStart => exact ⟨0, by omega, rfl, rfl, Below.refl _ _⟩
  case round =>
    obtain ⟨k, hk, rfl, rfl, hB⟩ := hrel
    by_cases hlt : k < l.length
    · have hcell := (HC.out.below HC.out.1 hB).2 k hlt
      have hol := butL_lt v hv l k
      have HT := hide (butL_take v l k hlt)
      obtain ⟨x, hxe⟩ : ∃ x, l[k] = x := ⟨_, rfl⟩
      rw [hxe] at hcell HT
      clear hxe
      generalize butL v (l.take k) = o at *
      go_wp2_with (first | (go_at_call 90; refine (HS.out _ (by assumption) _ _).mono ?_; rintro e w' ⟨rfl, hb2⟩))
      go_roundw
      case rel => exact ⟨k + 1, by omega, by go_num, by rw [HT.out], hB.trans (hb2.mono hB.size)⟩
      case measure => simp [intOf]; omega
    · obtain rfl : k = l.length := by omega
      rw [List.take_length]
      go_wp2
      go_ret
      exact ⟨rfl, hB⟩
end Go.Proofs.YtchjhpeogdkbmaaDoor
namespace Go.Proofs.YtchjhpeogdkbmaaDoor
open Go.RowKit
set_option linter.unusedVariables false

theorem Calls.bel1 {P : Program} {f : Nat} {args : Array Value} {r : Value} {w1 : World} (h : Calls P f args w1 fun e w2 => e = .returned r ∧ ∃ o, w2 = w1.alloc o) : Calls P f args w1 fun e w2 => e = .returned r ∧ Below w1.heap.size w1 w2 :=
  h.mono fun e w2 ⟨he, o, hw⟩ => ⟨he, hw ▸ below_one _ _⟩
theorem Calls.bel2 {P : Program} {f : Nat} {args : Array Value} {r : Value} {w1 : World} (h : Calls P f args w1 fun e w2 => e = .returned r ∧ ∃ o o', w2 = (w1.alloc o).alloc o') : Calls P f args w1 fun e w2 => e = .returned r ∧ Below w1.heap.size w1 w2 :=
  h.mono fun e w2 ⟨he, o, o', hw⟩ => ⟨he, hw ▸ below_two _ _ _⟩
theorem Calls.bel3 {P : Program} {f : Nat} {args : Array Value} {r : Value} {w1 : World} (h : Calls P f args w1 fun e w2 => e = .returned r ∧ ∃ o o' p, w2 = ((w1.alloc o).alloc o').alloc p) : Calls P f args w1 fun e w2 => e = .returned r ∧ Below w1.heap.size w1 w2 :=
  h.mono fun e w2 ⟨he, o, o', p, hw⟩ => ⟨he, hw ▸ below_three _ _ _ _⟩
end Go.Proofs.YtchjhpeogdkbmaaDoor
namespace Go.Proofs.YtchjhpeogdkbmaaDoor
open Go.RowKit
set_option linter.unusedVariables false

theorem RowAt.put456 {W : World} {b : Nat} {t : TypeId} {z0 z1 z2 z3 z4 z5 z6 z7 : Value} (h : RowAt W b #[z0, z1, z2, z3, z4, z5, z6, z7] t) (v4 v5 v6 : Value) :
    RowAt (((W.setCell ⟨b, 4, none⟩ v4).setCell ⟨b, 5, none⟩ v5).setCell ⟨b, 6, none⟩ v6) b #[z0, z1, z2, z3, v4, v5, v6, z7] t := by
  have h8 := ((h.put 4 v4).put 5 v5).put 6 v6
  simp only [List.setIfInBounds_toArray, List.set_cons_zero, List.set_cons_succ] at h8
  exact h8
/-- Eight stores, one behind the other. -/
theorem RowAt.put8 {W : World} {b : Nat} {t : TypeId} {z0 z1 z2 z3 z4 z5 z6 z7 : Value} (h : RowAt W b #[z0, z1, z2, z3, z4, z5, z6, z7] t) (v0 v1 v2 v3 v4 v5 v6 v7 : Value) :
    RowAt ((((((((W.setCell ⟨b, 0, none⟩ v0).setCell ⟨b, 1, none⟩ v1).setCell ⟨b, 2, none⟩ v2).setCell ⟨b, 3, none⟩ v3).setCell ⟨b, 4, none⟩ v4).setCell ⟨b, 5, none⟩ v5).setCell ⟨b, 6, none⟩ v6).setCell ⟨b, 7, none⟩ v7) b #[v0, v1, v2, v3, v4, v5, v6, v7] t := by
  have h8 := (((((((h.put 0 v0).put 1 v1).put 2 v2).put 3 v3).put 4 v4).put 5 v5).put 6 v6).put 7 v7
  simp only [List.setIfInBounds_toArray, List.set_cons_zero, List.set_cons_succ] at h8
  exact h8
theorem below_put8 {n : Nat} {w W : World} {b : Nat} (h : Below n w W) (hn : n ≤ b) (v0 v1 v2 v3 v4 v5 v6 v7 : Value) : Below n w ((((((((W.setCell ⟨b, 0, none⟩ v0).setCell ⟨b, 1, none⟩ v1).setCell ⟨b, 2, none⟩ v2).setCell ⟨b, 3, none⟩ v3).setCell ⟨b, 4, none⟩ v4).setCell ⟨b, 5, none⟩ v5).setCell ⟨b, 6, none⟩ v6).setCell ⟨b, 7, none⟩ v7) :=
  (((((((h.setCell hn v0).setCell hn v1).setCell hn v2).setCell hn v3).setCell hn v4).setCell hn v5).setCell hn v6).setCell hn v7
/-- Eight cells at once. -/
theorem cell8 {w : World} {b : Nat} {x0 x1 x2 x3 x4 x5 x6 x7 : Value} {t : TypeId} (h : RowAt w b #[x0, x1, x2, x3, x4, x5, x6, x7] t) : w.cell? ⟨b, 0, none⟩ = some x0 ∧ w.cell? ⟨b, 1, none⟩ = some x1 ∧ w.cell? ⟨b, 2, none⟩ = some x2 ∧ w.cell? ⟨b, 3, none⟩ = some x3 ∧ w.cell? ⟨b, 4, none⟩ = some x4 ∧ w.cell? ⟨b, 5, none⟩ = some x5 ∧ w.cell? ⟨b, 6, none⟩ = some x6 ∧ w.cell? ⟨b, 7, none⟩ = some x7 :=
  ⟨h.cell 0, h.cell 1, h.cell 2, h.cell 3, h.cell 4, h.cell 5, h.cell 6, h.cell 7⟩
theorem thaw8 {w : World} {b : Nat} {cs : Array Value} {t : TypeId} (h : RowAt w b cs t) : w.frozen? ⟨b, 0, none⟩ = false ∧ w.frozen? ⟨b, 1, none⟩ = false ∧ w.frozen? ⟨b, 2, none⟩ = false ∧ w.frozen? ⟨b, 3, none⟩ = false ∧ w.frozen? ⟨b, 4, none⟩ = false ∧ w.frozen? ⟨b, 5, none⟩ = false ∧ w.frozen? ⟨b, 6, none⟩ = false ∧ w.frozen? ⟨b, 7, none⟩ = false :=
  ⟨h.thaw 0, h.thaw 1, h.thaw 2, h.thaw 3, h.thaw 4, h.thaw 5, h.thaw 6, h.thaw 7⟩
end Go.Proofs.YtchjhpeogdkbmaaDoor
namespace Go.Proofs.YtchjhpeogdkbmaaDoor
open Go.RowKit
set_option linter.unusedVariables false

theorem rset_ex (a : Nat) (ha : a < 4294967296) (lo x : Nat) (hx : x < 4294967296) (w : World) :
    Calls Tryd.prog 90 #[.int .u32 a, .int .i64 lo, .int .i64 1, .int .u32 x] w fun e w' => e = .returned (.int .u32 (setOne a lo x : Nat)) ∧ ∃ o o', w' = (w.alloc o).alloc o' := by
  unfold setOne
  exact refset_ex a ha lo 1 (by omega) (by omega) x hx w
theorem rfld_ex (v : Nat) (hv : v < 4294967296) (lo : Nat) (w : World) :
    Calls Tryd.prog 91 #[.int .u32 v, .int .i64 lo, .int .i64 1] w fun e w' => e = .returned (.int .u32 (fldOne v lo : Nat)) ∧ ∃ o o', w' = (w.alloc o).alloc o' := by
  unfold fldOne
  exact reffield_ex v hv lo 1 w
theorem but2_tr (v : Nat) (hv : v < 4294967296) (w : World) (b : Nat) (t : TypeId) (h : RowAt w b #[.int .i64 0, .int .i64 1] t) :
    Calls Tryd.prog 79 #[.int .u32 v, .slice (some ⟨b, 0, none⟩) 2 2] w fun e w' => e = .returned (.int .u32 (v &&& 4294967292 : Nat)) ∧ Below w.heap.size w w' := by
  have hi : IntsAt w b [0, 1] := ⟨h.lt, fun j hj => by
    rw [h.cell j]
    match j, hj with
    | 0, _ => rfl
    | 1, _ => rfl⟩
  have h := rbut_any v hv [0, 1] (by decide) b w hi
  rw [but2 v hv] at h
  exact h
theorem size_rstate : (Tryd.prog.info? 26).map (·.size) = some 8 := by kernel_rfl
attribute [local go_sem ↓] Go.wp_at_zero Go.wp_at_succ

set_option maxHeartbeats 2000000 in
theorem rtrap_a (st en ve sc ep ca va ct pc pe x f r vv z v to : Int) (w : World)
    (HE : Hid (∀ w b t, RowAt w b #[.int .i64 0, .int .i64 1] t → Calls Tryd.prog 79 #[.int .u32 pc, .slice (some ⟨b, 0, none⟩) 2 2] w fun e w' => e = .returned (.int .u32 pe) ∧ Below w.heap.size w w'))
    (HV : Hid (∀ w b t, RowAt w b #[.int .i64 0, .int .i64 1] t → Calls Tryd.prog 79 #[.int .u32 ve, .slice (some ⟨b, 0, none⟩) 2 2] w fun e w' => e = .returned (.int .u32 vv) ∧ Below w.heap.size w w'))
    (HF : Hid (∀ w, Calls Tryd.prog 91 #[.int .u32 st, .int .i64 3, .int .i64 1] w fun e w' => e = .returned (.int .u32 f) ∧ ∃ o o', w' = (w.alloc o).alloc o'))
    (HS : Hid (∀ w, Calls Tryd.prog 90 #[.int .u32 st, .int .i64 7, .int .i64 1, .int .u32 f] w fun e w' => e = .returned (.int .u32 x) ∧ ∃ o o', w' = (w.alloc o).alloc o'))
    (HS2 : Hid (∀ w, Calls Tryd.prog 90 #[.int .u32 x, .int .i64 3, .int .i64 1, .int .u32 0] w fun e w' => e = .returned (.int .u32 r) ∧ ∃ o o', w' = (w.alloc o).alloc o'))
    (e1 : (ve % 2 == 1) = false) (e2 : to = vv) (t0 : 0 ≤ ve) :
    Calls Tryd.prog 64 #[.agg #[.int .u32 st, .int .u32 en, .int .u32 ve, .int .u32 sc, .int .u32 ep, .int .u32 ca, .int .u32 va, .int .u64 ct], .int .u32 z, .int .u32 v, .int .u32 pc] w fun e w' => e = .returned (.tuple #[.agg #[.int .u32 r, .int .u32 en, .int .u32 ve, .int .u32 sc, .int .u32 pe, .int .u32 z, .int .u32 v, .int .u64 ct], .int .u32 to]) ∧ Below w.heap.size w w' := by
  have E2 := hide e2
  clear e2
  go_enter Tryd.func64, Tryd.ntmps64
  go_wp2_with (fail)
  obtain ⟨W, hW⟩ : ∃ X, ((w.alloc (.cells #[.int .u32 st, .int .u32 en, .int .u32 ve, .int .u32 sc, .int .u32 ep, .int .u32 ca, .int .u32 va, .int .u64 ct] 26)).alloc (.cells #[.int .u32 0, .int .u32 0, .int .u32 0, .int .u32 0, .int .u32 0, .int .u32 0, .int .u32 0, .int .u64 0] 26)).alloc (.cells #[.int .i64 0, .int .i64 1] 3) = X := ⟨_, rfl⟩
  have hR : RowAt W w.heap.size #[.int .u32 st, .int .u32 en, .int .u32 ve, .int .u32 sc, .int .u32 ep, .int .u32 ca, .int .u32 va, .int .u64 ct] 26 := hW ▸ ((RowAt.new w _ _ _ rfl).al _).al _
  have hZ : RowAt W (w.heap.size + 1) #[.int .u32 0, .int .u32 0, .int .u32 0, .int .u32 0, .int .u32 0, .int .u32 0, .int .u32 0, .int .u64 0] 26 := hW ▸ (RowAt.new _ _ _ _ (by simp)).al _
  have hI : RowAt W (w.heap.size + 1 + 1) #[.int .i64 0, .int .i64 1] 3 := hW ▸ RowAt.new _ _ _ _ (by simp)
  have hB : Below w.heap.size w W := hW ▸ below_three _ _ _ _
  have HR := hide hR
  have HZ := hide hZ
  have HB := hide hB
  rw [hW]
  clear hW hR hZ hB
  refine (HE.out _ _ _ hI).mono ?_
  rintro e w1 ⟨rfl, hb1⟩
  have hR1 := HR.out.bl hb1
  have hZ1 := HZ.out.bl hb1
  have HB1 := hide (below_bl rfl HB.out hb1)
  have l1 := hZ1.lt
  have l1' := hR1.lt
  have t4 := hR1.thaw 4
  have t5 := hR1.thaw 5
  have t6 := hR1.thaw 6
  have c4 : w1.cell? ⟨w.heap.size, 4, none⟩ = some (.int .u32 ep) := hR1.cell 4
  have c5 : w1.cell? ⟨w.heap.size, 5, none⟩ = some (.int .u32 ca) := hR1.cell 5
  have c6 : w1.cell? ⟨w.heap.size, 6, none⟩ = some (.int .u32 va) := hR1.cell 6
  have HR1 := hide hR1
  have HZ1 := hide hZ1
  clear HR HZ HB hI hb1 hR1 hZ1
  go_wp2_with (fail)
  obtain ⟨X, hX⟩ : ∃ X, ((w1.setCell ⟨w.heap.size, 4, none⟩ (.int .u32 pe)).setCell ⟨w.heap.size, 5, none⟩ (.int .u32 z)).setCell ⟨w.heap.size, 6, none⟩ (.int .u32 v) = X := ⟨_, rfl⟩
  have hRX : RowAt X w.heap.size #[.int .u32 st, .int .u32 en, .int .u32 ve, .int .u32 sc, .int .u32 pe, .int .u32 z, .int .u32 v, .int .u64 ct] 26 := hX ▸ HR1.out.put456 _ _ _
  have hZX : RowAt X (w.heap.size + 1) #[.int .u32 0, .int .u32 0, .int .u32 0, .int .u32 0, .int .u32 0, .int .u32 0, .int .u32 0, .int .u64 0] 26 := hX ▸ ((HZ1.out.far (by omega) 4 _).far (by omega) 5 _).far (by omega) 6 _
  have HBX : Hid (Below w.heap.size w X) := hX ▸ ((HB1.out.setCell (p := ⟨w.heap.size, 4, none⟩) (Nat.le_refl _) _).setCell (p := ⟨w.heap.size, 5, none⟩) (Nat.le_refl _) _).setCell (p := ⟨w.heap.size, 6, none⟩) (Nat.le_refl _) _
  have lX := hZX.lt
  have lX' := hRX.lt
  have lX1 : w.heap.size < X.heap.size + 1 := by omega
  have lX2 : w.heap.size < X.heap.size + 1 + 1 := by omega
  have lX3 : w.heap.size < X.heap.size + 1 + 1 + 1 := by omega
  have t0 := hRX.thaw 0
  have c0 : X.cell? ⟨w.heap.size, 0, none⟩ = some (.int .u32 st) := hRX.cell 0
  have HRX := hide hRX
  have HZX := hide hZX
  rw [hX]
  clear hX HR1 HZ1 HB1 hRX hZX l1 l1' t4 t5 t6 c4 c5 c6
  go_region_with (first | (go_at_call 91; refine (HF.out _).mono ?_; rintro e w2 ⟨rfl, o1, o2, rfl⟩) | (go_at_call 90; refine (HS.out _).mono ?_; rintro e w3 ⟨rfl, o3, o4, rfl⟩))
  all_goals
    obtain ⟨Y, hY⟩ : ∃ Y, ((((X.setCell ⟨w.heap.size, 0, none⟩ (.int .u32 x)).alloc o1).alloc o2).alloc o3).alloc o4 = Y := ⟨_, rfl⟩
    have hRY : RowAt Y w.heap.size #[.int .u32 x, .int .u32 en, .int .u32 ve, .int .u32 sc, .int .u32 pe, .int .u32 z, .int .u32 v, .int .u64 ct] 26 := hY ▸ ((((HRX.out.put 0 _).al _).al _).al _).al _
    have hZY : RowAt Y (w.heap.size + 1) #[.int .u32 0, .int .u32 0, .int .u32 0, .int .u32 0, .int .u32 0, .int .u32 0, .int .u32 0, .int .u64 0] 26 := hY ▸ ((((HZX.out.far (by omega) 0 _).al _).al _).al _).al _
    have HBY : Hid (Below w.heap.size w Y) := by
      rw [← hY]
      have h1 := HBX.out.setCell (p := ⟨w.heap.size, 0, none⟩) (Nat.le_refl _) (.int .u32 x)
      have h2 := h1.size
      exact ((((h1.alloc h2 _).alloc (by simp; omega) _).alloc (by simp; omega) _).alloc (by simp; omega) _)
    have lY := hZY.lt
    have lY' := hRY.lt
    have tY := hRY.thaw 0
    have cY : Y.cell? ⟨w.heap.size, 0, none⟩ = some (.int .u32 x) := hRY.cell 0
    have c2 : Y.cell? ⟨w.heap.size, 2, none⟩ = some (.int .u32 ve) := hRY.cell 2
    have HRY := hide hRY
    have HZY := hide hZY
    rw [hY]
    clear hY hRY hZY HRX HZX HBX lX lX' lX1 lX2 lX3 t0 c0
    go_wp2_with (first | (go_at_call 90; refine (HS2.out _).mono ?_; rintro e w4 ⟨rfl, o5, o6, rfl⟩))
    obtain ⟨V, hV⟩ : ∃ V, ((((Y.setCell ⟨w.heap.size, 0, none⟩ (.int .u32 r)).alloc o5).alloc o6).alloc (.cells #[.int .i64 0, .int .i64 1] 3)).drew = V := ⟨_, rfl⟩
    have HRV : Hid (RowAt V w.heap.size #[.int .u32 r, .int .u32 en, .int .u32 ve, .int .u32 sc, .int .u32 pe, .int .u32 z, .int .u32 v, .int .u64 ct] 26) := hV ▸ ((((HRY.out.put 0 _).al _).al _).al _).dr
    have HZV : Hid (RowAt V (w.heap.size + 1) #[.int .u32 0, .int .u32 0, .int .u32 0, .int .u32 0, .int .u32 0, .int .u32 0, .int .u32 0, .int .u64 0] 26) := hV ▸ ((((HZY.out.far (by omega) 0 _).al _).al _).al _).dr
    have hIV : RowAt V (Y.heap.size + 1 + 1) #[.int .i64 0, .int .i64 1] 3 := hV ▸ (RowAt.new _ _ _ _ (by simp)).dr
    have HBV : Hid (Below w.heap.size w V) := by
      rw [← hV]
      have h1 := HBY.out.setCell (p := ⟨w.heap.size, 0, none⟩) (Nat.le_refl _) (.int .u32 r)
      have h2 := h1.size
      exact (((h1.alloc h2 _).alloc (by simp; omega) _).alloc (by simp; omega) _).drew
    rw [hV]
    clear hV HRY HZY HBY
    refine (HV.out _ _ _ hIV).mono ?_
    rintro e w5 ⟨rfl, hb5⟩
    have hR5 := HRV.out.bl hb5
    have hZ5 := HZV.out.bl hb5
    have HB5 := hide (below_bl rfl HBV.out hb5)
    clear hIV hb5 HRV HZV HBV lY lY' tY cY c2
    have c0 : w5.cell? ⟨w.heap.size, 0, none⟩ = some (.int .u32 r) := hR5.cell 0
    have c1 : w5.cell? ⟨w.heap.size, 1, none⟩ = some (.int .u32 en) := hR5.cell 1
    have c2 : w5.cell? ⟨w.heap.size, 2, none⟩ = some (.int .u32 ve) := hR5.cell 2
    have c3 : w5.cell? ⟨w.heap.size, 3, none⟩ = some (.int .u32 sc) := hR5.cell 3
    have c4 : w5.cell? ⟨w.heap.size, 4, none⟩ = some (.int .u32 pe) := hR5.cell 4
    have c5 : w5.cell? ⟨w.heap.size, 5, none⟩ = some (.int .u32 z) := hR5.cell 5
    have c6 : w5.cell? ⟨w.heap.size, 6, none⟩ = some (.int .u32 v) := hR5.cell 6
    have c7 : w5.cell? ⟨w.heap.size, 7, none⟩ = some (.int .u64 ct) := hR5.cell 7
    have z0 : w5.cell? ⟨w.heap.size + 1, 0, none⟩ = some (.int .u32 0) := hZ5.cell 0
    have f0 := hZ5.thaw 0
    have z1 : w5.cell? ⟨w.heap.size + 1, 1, none⟩ = some (.int .u32 0) := hZ5.cell 1
    have f1 := hZ5.thaw 1
    have z2 : w5.cell? ⟨w.heap.size + 1, 2, none⟩ = some (.int .u32 0) := hZ5.cell 2
    have f2 := hZ5.thaw 2
    have z3 : w5.cell? ⟨w.heap.size + 1, 3, none⟩ = some (.int .u32 0) := hZ5.cell 3
    have f3 := hZ5.thaw 3
    have z4 : w5.cell? ⟨w.heap.size + 1, 4, none⟩ = some (.int .u32 0) := hZ5.cell 4
    have f4 := hZ5.thaw 4
    have z5 : w5.cell? ⟨w.heap.size + 1, 5, none⟩ = some (.int .u32 0) := hZ5.cell 5
    have f5 := hZ5.thaw 5
    have z6 : w5.cell? ⟨w.heap.size + 1, 6, none⟩ = some (.int .u32 0) := hZ5.cell 6
    have f6 := hZ5.thaw 6
    have z7 : w5.cell? ⟨w.heap.size + 1, 7, none⟩ = some (.int .u64 0) := hZ5.cell 7
    have f7 := hZ5.thaw 7
    have HF5 := hide (hZ5.put8 (.int .u32 r) (.int .u32 en) (.int .u32 ve) (.int .u32 sc) (.int .u32 pe) (.int .u32 z) (.int .u32 v) (.int .u64 ct))
    have HG5 := hide (below_put8 HB5.out (Nat.le_succ _) (.int .u32 r) (.int .u32 en) (.int .u32 ve) (.int .u32 sc) (.int .u32 pe) (.int .u32 z) (.int .u32 v) (.int .u64 ct))
    clear hR5 hZ5
    go_wp2
    have hF := HF5.out
    have hG := HG5.out
    clear HF5 HG5
    generalize ((((((((w5.setCell ⟨w.heap.size + 1, 0, none⟩ (.int .u32 r)).setCell ⟨w.heap.size + 1, 1, none⟩ (.int .u32 en)).setCell ⟨w.heap.size + 1, 2, none⟩ (.int .u32 ve)).setCell ⟨w.heap.size + 1, 3, none⟩ (.int .u32 sc)).setCell ⟨w.heap.size + 1, 4, none⟩ (.int .u32 pe)).setCell ⟨w.heap.size + 1, 5, none⟩ (.int .u32 z)).setCell ⟨w.heap.size + 1, 6, none⟩ (.int .u32 v)).setCell ⟨w.heap.size + 1, 7, none⟩ (.int .u64 ct)) = Q at hF hG ⊢
    refine bodyPost_ret (results_cell_tmp_row Tryd.results64 _ _ (w.heap.size + 1) _ _ _ _ rfl hF Tryd.underlying26 rfl size_rstate) rfl ?_
    exact ⟨ret_two rfl E2.out.symm, hG⟩
set_option maxHeartbeats 2000000 in
theorem rtrap_b (st en ve sc ep ca va ct pc pe x f r vv z v to : Int) (w : World)
    (HE : Hid (∀ w b t, RowAt w b #[.int .i64 0, .int .i64 1] t → Calls Tryd.prog 79 #[.int .u32 pc, .slice (some ⟨b, 0, none⟩) 2 2] w fun e w' => e = .returned (.int .u32 pe) ∧ Below w.heap.size w w'))
    (HV : Hid (∀ w b t, RowAt w b #[.int .i64 0, .int .i64 1] t → Calls Tryd.prog 79 #[.int .u32 ve, .slice (some ⟨b, 0, none⟩) 2 2] w fun e w' => e = .returned (.int .u32 vv) ∧ Below w.heap.size w w'))
    (HF : Hid (∀ w, Calls Tryd.prog 91 #[.int .u32 st, .int .i64 3, .int .i64 1] w fun e w' => e = .returned (.int .u32 f) ∧ ∃ o o', w' = (w.alloc o).alloc o'))
    (HS : Hid (∀ w, Calls Tryd.prog 90 #[.int .u32 st, .int .i64 7, .int .i64 1, .int .u32 f] w fun e w' => e = .returned (.int .u32 x) ∧ ∃ o o', w' = (w.alloc o).alloc o'))
    (HS2 : Hid (∀ w, Calls Tryd.prog 90 #[.int .u32 x, .int .i64 3, .int .i64 1, .int .u32 0] w fun e w' => e = .returned (.int .u32 r) ∧ ∃ o o', w' = (w.alloc o).alloc o'))
    (e1 : (ve % 2 == 1) = true) (e3 : (2147483648 ≤ z) = False) (e2 : to = vv) (t0 : 0 ≤ ve) :
    Calls Tryd.prog 64 #[.agg #[.int .u32 st, .int .u32 en, .int .u32 ve, .int .u32 sc, .int .u32 ep, .int .u32 ca, .int .u32 va, .int .u64 ct], .int .u32 z, .int .u32 v, .int .u32 pc] w fun e w' => e = .returned (.tuple #[.agg #[.int .u32 r, .int .u32 en, .int .u32 ve, .int .u32 sc, .int .u32 pe, .int .u32 z, .int .u32 v, .int .u64 ct], .int .u32 to]) ∧ Below w.heap.size w w' := by
  have E2 := hide e2
  clear e2
  go_enter Tryd.func64, Tryd.ntmps64
  go_wp2_with (fail)
  obtain ⟨W, hW⟩ : ∃ X, ((w.alloc (.cells #[.int .u32 st, .int .u32 en, .int .u32 ve, .int .u32 sc, .int .u32 ep, .int .u32 ca, .int .u32 va, .int .u64 ct] 26)).alloc (.cells #[.int .u32 0, .int .u32 0, .int .u32 0, .int .u32 0, .int .u32 0, .int .u32 0, .int .u32 0, .int .u64 0] 26)).alloc (.cells #[.int .i64 0, .int .i64 1] 3) = X := ⟨_, rfl⟩
  have hR : RowAt W w.heap.size #[.int .u32 st, .int .u32 en, .int .u32 ve, .int .u32 sc, .int .u32 ep, .int .u32 ca, .int .u32 va, .int .u64 ct] 26 := hW ▸ ((RowAt.new w _ _ _ rfl).al _).al _
  have hZ : RowAt W (w.heap.size + 1) #[.int .u32 0, .int .u32 0, .int .u32 0, .int .u32 0, .int .u32 0, .int .u32 0, .int .u32 0, .int .u64 0] 26 := hW ▸ (RowAt.new _ _ _ _ (by simp)).al _
  have hI : RowAt W (w.heap.size + 1 + 1) #[.int .i64 0, .int .i64 1] 3 := hW ▸ RowAt.new _ _ _ _ (by simp)
  have hB : Below w.heap.size w W := hW ▸ below_three _ _ _ _
  have HR := hide hR
  have HZ := hide hZ
  have HB := hide hB
  rw [hW]
  clear hW hR hZ hB
  refine (HE.out _ _ _ hI).mono ?_
  rintro e w1 ⟨rfl, hb1⟩
  have hR1 := HR.out.bl hb1
  have hZ1 := HZ.out.bl hb1
  have HB1 := hide (below_bl rfl HB.out hb1)
  have l1 := hZ1.lt
  have l1' := hR1.lt
  have t4 := hR1.thaw 4
  have t5 := hR1.thaw 5
  have t6 := hR1.thaw 6
  have c4 : w1.cell? ⟨w.heap.size, 4, none⟩ = some (.int .u32 ep) := hR1.cell 4
  have c5 : w1.cell? ⟨w.heap.size, 5, none⟩ = some (.int .u32 ca) := hR1.cell 5
  have c6 : w1.cell? ⟨w.heap.size, 6, none⟩ = some (.int .u32 va) := hR1.cell 6
  have HR1 := hide hR1
  have HZ1 := hide hZ1
  clear HR HZ HB hI hb1 hR1 hZ1
  go_wp2_with (fail)
  obtain ⟨X, hX⟩ : ∃ X, ((w1.setCell ⟨w.heap.size, 4, none⟩ (.int .u32 pe)).setCell ⟨w.heap.size, 5, none⟩ (.int .u32 z)).setCell ⟨w.heap.size, 6, none⟩ (.int .u32 v) = X := ⟨_, rfl⟩
  have hRX : RowAt X w.heap.size #[.int .u32 st, .int .u32 en, .int .u32 ve, .int .u32 sc, .int .u32 pe, .int .u32 z, .int .u32 v, .int .u64 ct] 26 := hX ▸ HR1.out.put456 _ _ _
  have hZX : RowAt X (w.heap.size + 1) #[.int .u32 0, .int .u32 0, .int .u32 0, .int .u32 0, .int .u32 0, .int .u32 0, .int .u32 0, .int .u64 0] 26 := hX ▸ ((HZ1.out.far (by omega) 4 _).far (by omega) 5 _).far (by omega) 6 _
  have HBX : Hid (Below w.heap.size w X) := hX ▸ ((HB1.out.setCell (p := ⟨w.heap.size, 4, none⟩) (Nat.le_refl _) _).setCell (p := ⟨w.heap.size, 5, none⟩) (Nat.le_refl _) _).setCell (p := ⟨w.heap.size, 6, none⟩) (Nat.le_refl _) _
  have lX := hZX.lt
  have lX' := hRX.lt
  have lX1 : w.heap.size < X.heap.size + 1 := by omega
  have lX2 : w.heap.size < X.heap.size + 1 + 1 := by omega
  have lX3 : w.heap.size < X.heap.size + 1 + 1 + 1 := by omega
  have t0 := hRX.thaw 0
  have c0 : X.cell? ⟨w.heap.size, 0, none⟩ = some (.int .u32 st) := hRX.cell 0
  have HRX := hide hRX
  have HZX := hide hZX
  rw [hX]
  clear hX HR1 HZ1 HB1 hRX hZX l1 l1' t4 t5 t6 c4 c5 c6
  go_region_with (first | (go_at_call 91; refine (HF.out _).mono ?_; rintro e w2 ⟨rfl, o1, o2, rfl⟩) | (go_at_call 90; refine (HS.out _).mono ?_; rintro e w3 ⟨rfl, o3, o4, rfl⟩))
  all_goals
    obtain ⟨Y, hY⟩ : ∃ Y, ((((X.setCell ⟨w.heap.size, 0, none⟩ (.int .u32 x)).alloc o1).alloc o2).alloc o3).alloc o4 = Y := ⟨_, rfl⟩
    have hRY : RowAt Y w.heap.size #[.int .u32 x, .int .u32 en, .int .u32 ve, .int .u32 sc, .int .u32 pe, .int .u32 z, .int .u32 v, .int .u64 ct] 26 := hY ▸ ((((HRX.out.put 0 _).al _).al _).al _).al _
    have hZY : RowAt Y (w.heap.size + 1) #[.int .u32 0, .int .u32 0, .int .u32 0, .int .u32 0, .int .u32 0, .int .u32 0, .int .u32 0, .int .u64 0] 26 := hY ▸ ((((HZX.out.far (by omega) 0 _).al _).al _).al _).al _
    have HBY : Hid (Below w.heap.size w Y) := by
      rw [← hY]
      have h1 := HBX.out.setCell (p := ⟨w.heap.size, 0, none⟩) (Nat.le_refl _) (.int .u32 x)
      have h2 := h1.size
      exact ((((h1.alloc h2 _).alloc (by simp; omega) _).alloc (by simp; omega) _).alloc (by simp; omega) _)
    have lY := hZY.lt
    have lY' := hRY.lt
    have tY := hRY.thaw 0
    have cY : Y.cell? ⟨w.heap.size, 0, none⟩ = some (.int .u32 x) := hRY.cell 0
    have c2 : Y.cell? ⟨w.heap.size, 2, none⟩ = some (.int .u32 ve) := hRY.cell 2
    have HRY := hide hRY
    have HZY := hide hZY
    rw [hY]
    clear hY hRY hZY HRX HZX HBX lX lX' lX1 lX2 lX3 t0 c0
    go_wp2_with (first | (go_at_call 90; refine (HS2.out _).mono ?_; rintro e w4 ⟨rfl, o5, o6, rfl⟩))
    obtain ⟨V, hV⟩ : ∃ V, ((((Y.setCell ⟨w.heap.size, 0, none⟩ (.int .u32 r)).alloc o5).alloc o6).alloc (.cells #[.int .i64 0, .int .i64 1] 3)).drew = V := ⟨_, rfl⟩
    have HRV : Hid (RowAt V w.heap.size #[.int .u32 r, .int .u32 en, .int .u32 ve, .int .u32 sc, .int .u32 pe, .int .u32 z, .int .u32 v, .int .u64 ct] 26) := hV ▸ ((((HRY.out.put 0 _).al _).al _).al _).dr
    have HZV : Hid (RowAt V (w.heap.size + 1) #[.int .u32 0, .int .u32 0, .int .u32 0, .int .u32 0, .int .u32 0, .int .u32 0, .int .u32 0, .int .u64 0] 26) := hV ▸ ((((HZY.out.far (by omega) 0 _).al _).al _).al _).dr
    have hIV : RowAt V (Y.heap.size + 1 + 1) #[.int .i64 0, .int .i64 1] 3 := hV ▸ (RowAt.new _ _ _ _ (by simp)).dr
    have HBV : Hid (Below w.heap.size w V) := by
      rw [← hV]
      have h1 := HBY.out.setCell (p := ⟨w.heap.size, 0, none⟩) (Nat.le_refl _) (.int .u32 r)
      have h2 := h1.size
      exact (((h1.alloc h2 _).alloc (by simp; omega) _).alloc (by simp; omega) _).drew
    rw [hV]
    clear hV HRY HZY HBY
    refine (HV.out _ _ _ hIV).mono ?_
    rintro e w5 ⟨rfl, hb5⟩
    have hR5 := HRV.out.bl hb5
    have hZ5 := HZV.out.bl hb5
    have HB5 := hide (below_bl rfl HBV.out hb5)
    clear hIV hb5 HRV HZV HBV lY lY' tY cY c2
    have c0 : w5.cell? ⟨w.heap.size, 0, none⟩ = some (.int .u32 r) := hR5.cell 0
    have c1 : w5.cell? ⟨w.heap.size, 1, none⟩ = some (.int .u32 en) := hR5.cell 1
    have c2 : w5.cell? ⟨w.heap.size, 2, none⟩ = some (.int .u32 ve) := hR5.cell 2
    have c3 : w5.cell? ⟨w.heap.size, 3, none⟩ = some (.int .u32 sc) := hR5.cell 3
    have c4 : w5.cell? ⟨w.heap.size, 4, none⟩ = some (.int .u32 pe) := hR5.cell 4
    have c5 : w5.cell? ⟨w.heap.size, 5, none⟩ = some (.int .u32 z) := hR5.cell 5
    have c6 : w5.cell? ⟨w.heap.size, 6, none⟩ = some (.int .u32 v) := hR5.cell 6
    have c7 : w5.cell? ⟨w.heap.size, 7, none⟩ = some (.int .u64 ct) := hR5.cell 7
    have z0 : w5.cell? ⟨w.heap.size + 1, 0, none⟩ = some (.int .u32 0) := hZ5.cell 0
    have f0 := hZ5.thaw 0
    have z1 : w5.cell? ⟨w.heap.size + 1, 1, none⟩ = some (.int .u32 0) := hZ5.cell 1
    have f1 := hZ5.thaw 1
    have z2 : w5.cell? ⟨w.heap.size + 1, 2, none⟩ = some (.int .u32 0) := hZ5.cell 2
    have f2 := hZ5.thaw 2
    have z3 : w5.cell? ⟨w.heap.size + 1, 3, none⟩ = some (.int .u32 0) := hZ5.cell 3
    have f3 := hZ5.thaw 3
    have z4 : w5.cell? ⟨w.heap.size + 1, 4, none⟩ = some (.int .u32 0) := hZ5.cell 4
    have f4 := hZ5.thaw 4
    have z5 : w5.cell? ⟨w.heap.size + 1, 5, none⟩ = some (.int .u32 0) := hZ5.cell 5
    have f5 := hZ5.thaw 5
    have z6 : w5.cell? ⟨w.heap.size + 1, 6, none⟩ = some (.int .u32 0) := hZ5.cell 6
    have f6 := hZ5.thaw 6
    have z7 : w5.cell? ⟨w.heap.size + 1, 7, none⟩ = some (.int .u64 0) := hZ5.cell 7
    have f7 := hZ5.thaw 7
    have HF5 := hide (hZ5.put8 (.int .u32 r) (.int .u32 en) (.int .u32 ve) (.int .u32 sc) (.int .u32 pe) (.int .u32 z) (.int .u32 v) (.int .u64 ct))
    have HG5 := hide (below_put8 HB5.out (Nat.le_succ _) (.int .u32 r) (.int .u32 en) (.int .u32 ve) (.int .u32 sc) (.int .u32 pe) (.int .u32 z) (.int .u32 v) (.int .u64 ct))
    clear hR5 hZ5
    go_wp2
    have hF := HF5.out
    have hG := HG5.out
    clear HF5 HG5
    generalize ((((((((w5.setCell ⟨w.heap.size + 1, 0, none⟩ (.int .u32 r)).setCell ⟨w.heap.size + 1, 1, none⟩ (.int .u32 en)).setCell ⟨w.heap.size + 1, 2, none⟩ (.int .u32 ve)).setCell ⟨w.heap.size + 1, 3, none⟩ (.int .u32 sc)).setCell ⟨w.heap.size + 1, 4, none⟩ (.int .u32 pe)).setCell ⟨w.heap.size + 1, 5, none⟩ (.int .u32 z)).setCell ⟨w.heap.size + 1, 6, none⟩ (.int .u32 v)).setCell ⟨w.heap.size + 1, 7, none⟩ (.int .u64 ct)) = Q at hF hG ⊢
    refine bodyPost_ret (results_cell_tmp_row Tryd.results64 _ _ (w.heap.size + 1) _ _ _ _ rfl hF Tryd.underlying26 rfl size_rstate) rfl ?_
    exact ⟨ret_two rfl E2.out.symm, hG⟩
set_option maxHeartbeats 2000000 in
theorem rtrap_c (st en ve sc ep ca va ct pc pe x f r vv z v to : Int) (w : World)
    (HE : Hid (∀ w b t, RowAt w b #[.int .i64 0, .int .i64 1] t → Calls Tryd.prog 79 #[.int .u32 pc, .slice (some ⟨b, 0, none⟩) 2 2] w fun e w' => e = .returned (.int .u32 pe) ∧ Below w.heap.size w w'))
    (HV : Hid (∀ w b t, RowAt w b #[.int .i64 0, .int .i64 1] t → Calls Tryd.prog 79 #[.int .u32 ve, .slice (some ⟨b, 0, none⟩) 2 2] w fun e w' => e = .returned (.int .u32 vv) ∧ Below w.heap.size w w'))
    (HF : Hid (∀ w, Calls Tryd.prog 91 #[.int .u32 st, .int .i64 3, .int .i64 1] w fun e w' => e = .returned (.int .u32 f) ∧ ∃ o o', w' = (w.alloc o).alloc o'))
    (HS : Hid (∀ w, Calls Tryd.prog 90 #[.int .u32 st, .int .i64 7, .int .i64 1, .int .u32 f] w fun e w' => e = .returned (.int .u32 x) ∧ ∃ o o', w' = (w.alloc o).alloc o'))
    (HS2 : Hid (∀ w, Calls Tryd.prog 90 #[.int .u32 x, .int .i64 3, .int .i64 1, .int .u32 0] w fun e w' => e = .returned (.int .u32 r) ∧ ∃ o o', w' = (w.alloc o).alloc o'))
    (e1 : (ve % 2 == 1) = true) (e3 : 2147483648 ≤ z) (e4 : z ≤ 4294967295) (e2 : to = (vv + 4 * (z - 2147483648) % 4294967296) % 4294967296) (t0 : 0 ≤ ve) :
    Calls Tryd.prog 64 #[.agg #[.int .u32 st, .int .u32 en, .int .u32 ve, .int .u32 sc, .int .u32 ep, .int .u32 ca, .int .u32 va, .int .u64 ct], .int .u32 z, .int .u32 v, .int .u32 pc] w fun e w' => e = .returned (.tuple #[.agg #[.int .u32 r, .int .u32 en, .int .u32 ve, .int .u32 sc, .int .u32 pe, .int .u32 z, .int .u32 v, .int .u64 ct], .int .u32 to]) ∧ Below w.heap.size w w' := by
  have E2 := hide e2
  clear e2
  go_enter Tryd.func64, Tryd.ntmps64
  go_wp2_with (fail)
  obtain ⟨W, hW⟩ : ∃ X, ((w.alloc (.cells #[.int .u32 st, .int .u32 en, .int .u32 ve, .int .u32 sc, .int .u32 ep, .int .u32 ca, .int .u32 va, .int .u64 ct] 26)).alloc (.cells #[.int .u32 0, .int .u32 0, .int .u32 0, .int .u32 0, .int .u32 0, .int .u32 0, .int .u32 0, .int .u64 0] 26)).alloc (.cells #[.int .i64 0, .int .i64 1] 3) = X := ⟨_, rfl⟩
  have hR : RowAt W w.heap.size #[.int .u32 st, .int .u32 en, .int .u32 ve, .int .u32 sc, .int .u32 ep, .int .u32 ca, .int .u32 va, .int .u64 ct] 26 := hW ▸ ((RowAt.new w _ _ _ rfl).al _).al _
  have hZ : RowAt W (w.heap.size + 1) #[.int .u32 0, .int .u32 0, .int .u32 0, .int .u32 0, .int .u32 0, .int .u32 0, .int .u32 0, .int .u64 0] 26 := hW ▸ (RowAt.new _ _ _ _ (by simp)).al _
  have hI : RowAt W (w.heap.size + 1 + 1) #[.int .i64 0, .int .i64 1] 3 := hW ▸ RowAt.new _ _ _ _ (by simp)
  have hB : Below w.heap.size w W := hW ▸ below_three _ _ _ _
  have HR := hide hR
  have HZ := hide hZ
  have HB := hide hB
  rw [hW]
  clear hW hR hZ hB
  refine (HE.out _ _ _ hI).mono ?_
  rintro e w1 ⟨rfl, hb1⟩
  have hR1 := HR.out.bl hb1
  have hZ1 := HZ.out.bl hb1
  have HB1 := hide (below_bl rfl HB.out hb1)
  have l1 := hZ1.lt
  have l1' := hR1.lt
  have t4 := hR1.thaw 4
  have t5 := hR1.thaw 5
  have t6 := hR1.thaw 6
  have c4 : w1.cell? ⟨w.heap.size, 4, none⟩ = some (.int .u32 ep) := hR1.cell 4
  have c5 : w1.cell? ⟨w.heap.size, 5, none⟩ = some (.int .u32 ca) := hR1.cell 5
  have c6 : w1.cell? ⟨w.heap.size, 6, none⟩ = some (.int .u32 va) := hR1.cell 6
  have HR1 := hide hR1
  have HZ1 := hide hZ1
  clear HR HZ HB hI hb1 hR1 hZ1
  go_wp2_with (fail)
  obtain ⟨X, hX⟩ : ∃ X, ((w1.setCell ⟨w.heap.size, 4, none⟩ (.int .u32 pe)).setCell ⟨w.heap.size, 5, none⟩ (.int .u32 z)).setCell ⟨w.heap.size, 6, none⟩ (.int .u32 v) = X := ⟨_, rfl⟩
  have hRX : RowAt X w.heap.size #[.int .u32 st, .int .u32 en, .int .u32 ve, .int .u32 sc, .int .u32 pe, .int .u32 z, .int .u32 v, .int .u64 ct] 26 := hX ▸ HR1.out.put456 _ _ _
  have hZX : RowAt X (w.heap.size + 1) #[.int .u32 0, .int .u32 0, .int .u32 0, .int .u32 0, .int .u32 0, .int .u32 0, .int .u32 0, .int .u64 0] 26 := hX ▸ ((HZ1.out.far (by omega) 4 _).far (by omega) 5 _).far (by omega) 6 _
  have HBX : Hid (Below w.heap.size w X) := hX ▸ ((HB1.out.setCell (p := ⟨w.heap.size, 4, none⟩) (Nat.le_refl _) _).setCell (p := ⟨w.heap.size, 5, none⟩) (Nat.le_refl _) _).setCell (p := ⟨w.heap.size, 6, none⟩) (Nat.le_refl _) _
  have lX := hZX.lt
  have lX' := hRX.lt
  have lX1 : w.heap.size < X.heap.size + 1 := by omega
  have lX2 : w.heap.size < X.heap.size + 1 + 1 := by omega
  have lX3 : w.heap.size < X.heap.size + 1 + 1 + 1 := by omega
  have t0 := hRX.thaw 0
  have c0 : X.cell? ⟨w.heap.size, 0, none⟩ = some (.int .u32 st) := hRX.cell 0
  have HRX := hide hRX
  have HZX := hide hZX
  rw [hX]
  clear hX HR1 HZ1 HB1 hRX hZX l1 l1' t4 t5 t6 c4 c5 c6
  go_region_with (first | (go_at_call 91; refine (HF.out _).mono ?_; rintro e w2 ⟨rfl, o1, o2, rfl⟩) | (go_at_call 90; refine (HS.out _).mono ?_; rintro e w3 ⟨rfl, o3, o4, rfl⟩))
  all_goals
    obtain ⟨Y, hY⟩ : ∃ Y, ((((X.setCell ⟨w.heap.size, 0, none⟩ (.int .u32 x)).alloc o1).alloc o2).alloc o3).alloc o4 = Y := ⟨_, rfl⟩
    have hRY : RowAt Y w.heap.size #[.int .u32 x, .int .u32 en, .int .u32 ve, .int .u32 sc, .int .u32 pe, .int .u32 z, .int .u32 v, .int .u64 ct] 26 := hY ▸ ((((HRX.out.put 0 _).al _).al _).al _).al _
    have hZY : RowAt Y (w.heap.size + 1) #[.int .u32 0, .int .u32 0, .int .u32 0, .int .u32 0, .int .u32 0, .int .u32 0, .int .u32 0, .int .u64 0] 26 := hY ▸ ((((HZX.out.far (by omega) 0 _).al _).al _).al _).al _
    have HBY : Hid (Below w.heap.size w Y) := by
      rw [← hY]
      have h1 := HBX.out.setCell (p := ⟨w.heap.size, 0, none⟩) (Nat.le_refl _) (.int .u32 x)
      have h2 := h1.size
      exact ((((h1.alloc h2 _).alloc (by simp; omega) _).alloc (by simp; omega) _).alloc (by simp; omega) _)
    have lY := hZY.lt
    have lY' := hRY.lt
    have tY := hRY.thaw 0
    have cY : Y.cell? ⟨w.heap.size, 0, none⟩ = some (.int .u32 x) := hRY.cell 0
    have c2 : Y.cell? ⟨w.heap.size, 2, none⟩ = some (.int .u32 ve) := hRY.cell 2
    have HRY := hide hRY
    have HZY := hide hZY
    rw [hY]
    clear hY hRY hZY HRX HZX HBX lX lX' lX1 lX2 lX3 t0 c0
    go_wp2_with (first | (go_at_call 90; refine (HS2.out _).mono ?_; rintro e w4 ⟨rfl, o5, o6, rfl⟩))
    obtain ⟨V, hV⟩ : ∃ V, ((((Y.setCell ⟨w.heap.size, 0, none⟩ (.int .u32 r)).alloc o5).alloc o6).alloc (.cells #[.int .i64 0, .int .i64 1] 3)).drew = V := ⟨_, rfl⟩
    have HRV : Hid (RowAt V w.heap.size #[.int .u32 r, .int .u32 en, .int .u32 ve, .int .u32 sc, .int .u32 pe, .int .u32 z, .int .u32 v, .int .u64 ct] 26) := hV ▸ ((((HRY.out.put 0 _).al _).al _).al _).dr
    have HZV : Hid (RowAt V (w.heap.size + 1) #[.int .u32 0, .int .u32 0, .int .u32 0, .int .u32 0, .int .u32 0, .int .u32 0, .int .u32 0, .int .u64 0] 26) := hV ▸ ((((HZY.out.far (by omega) 0 _).al _).al _).al _).dr
    have hIV : RowAt V (Y.heap.size + 1 + 1) #[.int .i64 0, .int .i64 1] 3 := hV ▸ (RowAt.new _ _ _ _ (by simp)).dr
    have HBV : Hid (Below w.heap.size w V) := by
      rw [← hV]
      have h1 := HBY.out.setCell (p := ⟨w.heap.size, 0, none⟩) (Nat.le_refl _) (.int .u32 r)
      have h2 := h1.size
      exact (((h1.alloc h2 _).alloc (by simp; omega) _).alloc (by simp; omega) _).drew
    rw [hV]
    clear hV HRY HZY HBY
    refine (HV.out _ _ _ hIV).mono ?_
    rintro e w5 ⟨rfl, hb5⟩
    have hR5 := HRV.out.bl hb5
    have hZ5 := HZV.out.bl hb5
    have HB5 := hide (below_bl rfl HBV.out hb5)
    clear hIV hb5 HRV HZV HBV lY lY' tY cY c2
    have c0 : w5.cell? ⟨w.heap.size, 0, none⟩ = some (.int .u32 r) := hR5.cell 0
    have c1 : w5.cell? ⟨w.heap.size, 1, none⟩ = some (.int .u32 en) := hR5.cell 1
    have c2 : w5.cell? ⟨w.heap.size, 2, none⟩ = some (.int .u32 ve) := hR5.cell 2
    have c3 : w5.cell? ⟨w.heap.size, 3, none⟩ = some (.int .u32 sc) := hR5.cell 3
    have c4 : w5.cell? ⟨w.heap.size, 4, none⟩ = some (.int .u32 pe) := hR5.cell 4
    have c5 : w5.cell? ⟨w.heap.size, 5, none⟩ = some (.int .u32 z) := hR5.cell 5
    have c6 : w5.cell? ⟨w.heap.size, 6, none⟩ = some (.int .u32 v) := hR5.cell 6
    have c7 : w5.cell? ⟨w.heap.size, 7, none⟩ = some (.int .u64 ct) := hR5.cell 7
    have z0 : w5.cell? ⟨w.heap.size + 1, 0, none⟩ = some (.int .u32 0) := hZ5.cell 0
    have f0 := hZ5.thaw 0
    have z1 : w5.cell? ⟨w.heap.size + 1, 1, none⟩ = some (.int .u32 0) := hZ5.cell 1
    have f1 := hZ5.thaw 1
    have z2 : w5.cell? ⟨w.heap.size + 1, 2, none⟩ = some (.int .u32 0) := hZ5.cell 2
    have f2 := hZ5.thaw 2
    have z3 : w5.cell? ⟨w.heap.size + 1, 3, none⟩ = some (.int .u32 0) := hZ5.cell 3
    have f3 := hZ5.thaw 3
    have z4 : w5.cell? ⟨w.heap.size + 1, 4, none⟩ = some (.int .u32 0) := hZ5.cell 4
    have f4 := hZ5.thaw 4
    have z5 : w5.cell? ⟨w.heap.size + 1, 5, none⟩ = some (.int .u32 0) := hZ5.cell 5
    have f5 := hZ5.thaw 5
    have z6 : w5.cell? ⟨w.heap.size + 1, 6, none⟩ = some (.int .u32 0) := hZ5.cell 6
    have f6 := hZ5.thaw 6
    have z7 : w5.cell? ⟨w.heap.size + 1, 7, none⟩ = some (.int .u64 0) := hZ5.cell 7
    have f7 := hZ5.thaw 7
    have HF5 := hide (hZ5.put8 (.int .u32 r) (.int .u32 en) (.int .u32 ve) (.int .u32 sc) (.int .u32 pe) (.int .u32 z) (.int .u32 v) (.int .u64 ct))
    have HG5 := hide (below_put8 HB5.out (Nat.le_succ _) (.int .u32 r) (.int .u32 en) (.int .u32 ve) (.int .u32 sc) (.int .u32 pe) (.int .u32 z) (.int .u32 v) (.int .u64 ct))
    clear hR5 hZ5
    go_wp2
    have hF := HF5.out
    have hG := HG5.out
    clear HF5 HG5
    generalize ((((((((w5.setCell ⟨w.heap.size + 1, 0, none⟩ (.int .u32 r)).setCell ⟨w.heap.size + 1, 1, none⟩ (.int .u32 en)).setCell ⟨w.heap.size + 1, 2, none⟩ (.int .u32 ve)).setCell ⟨w.heap.size + 1, 3, none⟩ (.int .u32 sc)).setCell ⟨w.heap.size + 1, 4, none⟩ (.int .u32 pe)).setCell ⟨w.heap.size + 1, 5, none⟩ (.int .u32 z)).setCell ⟨w.heap.size + 1, 6, none⟩ (.int .u32 v)).setCell ⟨w.heap.size + 1, 7, none⟩ (.int .u64 ct)) = Q at hF hG ⊢
    refine bodyPost_ret (results_cell_tmp_row Tryd.results64 _ _ (w.heap.size + 1) _ _ _ _ rfl hF Tryd.underlying26 rfl size_rstate) rfl ?_
    exact ⟨ret_two rfl E2.out.symm, hG⟩

theorem rtrap_any (s : S8) (hs : s.Ok) (cause value pc : Nat) (hc : cause < 4294967296) (hp : pc < 4294967296) (w : World) :
    Calls Tryd.prog 64 #[.agg s.cells, .int .u32 cause, .int .u32 value, .int .u32 pc] w fun e w' => e = .returned (.tuple #[.agg (trapN s cause value pc).cells, .int .u32 (trapTo s.ve cause : Nat)]) ∧ Below w.heap.size w w' := by
  obtain ⟨st, en, ve, sc, ep, ca, va, ct⟩ := s
  obtain ⟨h0, h1, h2, h3, h4, h5, h6, h7⟩ := hs
  dsimp only at h0 h2
  have HE := hide (but2_tr pc hp)
  have HV := hide (but2_tr ve h2)
  have HF := hide (rfld_ex st h0 3)
  have HS := hide (rset_ex st h0 7 (fldOne st 3) (fldOne_lt _ _))
  have HS2 := hide (rset_ex _ (setOne_lt st 7 (fldOne st 3)) 3 0 (by decide))
  rw [trap_st st h0] at HS2
  have HT := trap_to ve cause h2 hc
  by_cases k1 : ve % 2 = 1
  · by_cases k2 : 2147483648 ≤ cause
    · rw [if_pos ⟨k1, k2⟩] at HT
      exact rtrap_c st en ve sc ep ca va ct pc _ _ _ _ _ cause value _ w HE HV HF HS HS2 (by simp; omega) (by omega) (by omega) (by show ((trapTo ve cause : Nat) : Int) = _; rw [HT]; omega) (by omega)
    · rw [if_neg (fun h => k2 h.2)] at HT
      exact rtrap_b st en ve sc ep ca va ct pc _ _ _ _ _ cause value _ w HE HV HF HS HS2 (by simp; omega) (eq_false (by omega)) (by show ((trapTo ve cause : Nat) : Int) = _; rw [HT]) (by omega)
  · rw [if_neg (fun h => k1 h.1)] at HT
    exact rtrap_a st en ve sc ep ca va ct pc _ _ _ _ _ cause value _ w HE HV HF HS HS2 (by simp; omega) (by show ((trapTo ve cause : Nat) : Int) = _; rw [HT]) (by omega)
end Go.Proofs.YtchjhpeogdkbmaaDoor
namespace Go.Proofs.YtchjhpeogdkbmaaDoor
open Go.RowKit
set_option linter.unusedVariables false

theorem onlyL_take (v : Nat) (l : List Nat) (k : Nat) (h : k < l.length) : onlyL v (l.take (k + 1)) = setOne (onlyL v (l.take k)) l[k] (fldOne v l[k]) := by
  unfold onlyL
  rw [List.take_add_one, List.foldl_append, List.getElem?_eq_getElem h, Option.toList_some, List.foldl_cons, List.foldl_nil]
theorem onlyL_lt (v : Nat) (l : List Nat) : ∀ k, onlyL v (l.take k) < 4294967296
  | 0 => by show 0 < 4294967296; decide
  | k + 1 => by
    by_cases h : k < l.length
    · rw [onlyL_take v l k h]; exact setOne_lt _ _ _
    · rw [List.take_of_length_le (by omega), ← List.take_of_length_le (i := k) (l := l) (by omega)]; exact onlyL_lt v l k
set_option maxHeartbeats 1000000 in
set_option maxRecDepth 100000 in
theorem ronly_any (v : Nat) (hv : v < 4294967296) (l : List Nat) (hl : ∀ j (h : j < l.length), l[j] < 32) (hn : l.length < 100) (b : Nat) (w : World) (hc : IntsAt w b l) :
    Calls Tryd.prog 78 #[.int .u32 v, .slice (some ⟨b, 0, none⟩) l.length l.length] w fun e w' => e = .returned (.int .u32 (onlyL v l : Nat)) ∧ Below w.heap.size w w' := by
  have HS := hide rset_one
  have HF := hide (rfld_one v hv)
  have HC := hide hc
  have HL := hide hl
  clear hc hl
  go_enter Tryd.func78, Tryd.ntmps78
  go_wp2
  go_loopw [5, 6] (fun o i wr => ∃ k : Nat, k ≤ l.length ∧ i = .int .i64 k ∧ o = .int .u32 (onlyL v (l.take k) : Nat) ∧ Below w.heap.size w wr) (fun _ i _ => l.length - (intOf i).toNat)
  case atStart => exact ⟨0, by omega, rfl, rfl, Below.refl _ _⟩
  case round =>
    obtain ⟨k, hk, rfl, rfl, hB⟩ := hrel
    by_cases hlt : k < l.length
    · have hx := HL.out k hlt
      have hcell := (HC.out.below HC.out.1 hB).2 k hlt
      have HB := hide hB
      have HCr := hide (HC.out.below HC.out.1 hB)
      have hol := onlyL_lt v l k
      have HT := hide (onlyL_take v l k hlt)
      obtain ⟨x, hxe⟩ : ∃ x, l[k] = x := ⟨_, rfl⟩
      rw [hxe] at hx hcell HT
      obtain ⟨f, hfe⟩ : ∃ f, fldOne v x = f := ⟨_, rfl⟩
      have hfl := fldOne_lt v x
      have HFx := hide (HF.out x)
      rw [hfe] at hfl HT HFx
      clear hfe hxe
      generalize onlyL v (l.take k) = o at *
      have hg : OffW w w.heap.size wr := ⟨HB.out, rfl⟩
      have hg' : OffW w w.heap.size wr.drew := hg.drew
      have HG := hide HC.out.1
      clear hB
      go_wp2_with (fail)
      go_region_held3 (fun w' => w'.cell? ⟨b, k, none⟩ = some (.int .i64 x) ∧ OffW w w.heap.size w') (go_keep)
        (first | (go_at_call 91; refine (Calls.one (w0 := w) (g := b) (j := k) (c := .int .i64 x) HG.out ?_ (HFx.out _)).mono ?_; (simp [*]); rintro e w' ⟨rfl, hcell, hg⟩) | (go_at_call 90; refine (Calls.one (w0 := w) (g := b) (j := k) (c := .int .i64 x) HG.out ?_ (HS.out _ (by assumption) _ _ (by assumption) _)).mono ?_; (simp [*]); rintro e w' ⟨rfl, hcell, hg⟩))
      go_wp2
      go_roundw
      case rel => exact ⟨k + 1, by omega, by go_num, by rw [HT.out], hg.1⟩
      case measure => simp [intOf]; omega
    · obtain rfl : k = l.length := by omega
      rw [List.take_length]
      go_wp2
      go_ret
      exact ⟨rfl, hB⟩
end Go.Proofs.YtchjhpeogdkbmaaDoor
namespace Go.Proofs.YtchjhpeogdkbmaaDoor
open Go.RowKit
set_option linter.unusedVariables false

theorem only2_at (v : Nat) (hv : v < 4294967296) (w : World) (b : Nat) (t : TypeId) (h : RowAt w b #[.int .i64 3, .int .i64 7] t) :
    Calls Tryd.prog 78 #[.int .u32 v, .slice (some ⟨b, 0, none⟩) 2 2] w fun e w' => e = .returned (.int .u32 (v &&& 136 : Nat)) ∧ Below w.heap.size w w' := by
  have hi : IntsAt w b [3, 7] := ⟨h.lt, fun j hj => by
    rw [h.cell j]
    match j, hj with
    | 0, _ => rfl
    | 1, _ => rfl⟩
  have h := ronly_any v hv [3, 7] (by decide) (by decide) b w hi
  rw [only2 v hv] at h
  exact h
theorem only3_at (v : Nat) (hv : v < 4294967296) (w : World) (b : Nat) (t : TypeId) (h : RowAt w b #[.int .i64 3, .int .i64 7, .int .i64 11] t) :
    Calls Tryd.prog 78 #[.int .u32 v, .slice (some ⟨b, 0, none⟩) 3 3] w fun e w' => e = .returned (.int .u32 (v &&& 2184 : Nat)) ∧ Below w.heap.size w w' := by
  have hi : IntsAt w b [3, 7, 11] := ⟨h.lt, fun j hj => by
    rw [h.cell j]
    match j, hj with
    | 0, _ => rfl
    | 1, _ => rfl
    | 2, _ => rfl⟩
  have h := ronly_any v hv [3, 7, 11] (by decide) (by decide) b w hi
  rw [only3 v hv] at h
  exact h
theorem but1_at (v : Nat) (hv : v < 4294967296) (w : World) (b : Nat) (t : TypeId) (h : RowAt w b #[.int .i64 1] t) :
    Calls Tryd.prog 79 #[.int .u32 v, .slice (some ⟨b, 0, none⟩) 1 1] w fun e w' => e = .returned (.int .u32 (v &&& 4294967293 : Nat)) ∧ Below w.heap.size w w' := by
  have hi : IntsAt w b [1] := ⟨h.lt, fun j hj => by
    rw [h.cell j]
    match j, hj with
    | 0, _ => rfl⟩
  have h := rbut_any v hv [1] (by decide) b w hi
  rw [but1 v hv] at h
  exact h
theorem but2_at (v : Nat) (hv : v < 4294967296) (w : World) (b : Nat) (t : TypeId) (h : RowAt w b #[.int .i64 0, .int .i64 1] t) :
    Calls Tryd.prog 79 #[.int .u32 v, .slice (some ⟨b, 0, none⟩) 2 2] w fun e w' => e = .returned (.int .u32 (v &&& 4294967292 : Nat)) ∧ Below w.heap.size w w' := by
  have hi : IntsAt w b [0, 1] := ⟨h.lt, fun j hj => by
    rw [h.cell j]
    match j, hj with
    | 0, _ => rfl
    | 1, _ => rfl⟩
  have h := rbut_any v hv [0, 1] (by decide) b w hi
  rw [but2 v hv] at h
  exact h
theorem size_rst : (Tryd.prog.info? 26).map (·.size) = some 8 := by kernel_rfl
end Go.Proofs.YtchjhpeogdkbmaaDoor
namespace Go.Proofs.YtchjhpeogdkbmaaDoor
open Go.RowKit
set_option linter.unusedVariables false

attribute [local go_sem ↓] Go.wp_at_zero Go.wp_at_succ
set_option maxHeartbeats 1000000 in
theorem rreturn_any (s : S8) (hs : s.Ok) (w : World) :
    Calls Tryd.prog 73 #[.agg s.cells] w fun e w' => e = .returned (.tuple #[.agg (retN s).cells, .int .u32 (s.ep : Nat)]) ∧ Below w.heap.size w w' := by
  obtain ⟨st, en, ve, sc, ep, ca, va, ct⟩ := s
  obtain ⟨h0, h1, h2, h3, h4, h5, h6, h7⟩ := hs
  dsimp only at h0
  have HF := hide (rfld_ex st h0 7)
  have HS := hide (rset_ex st h0 3 (fldOne st 7) (fldOne_lt _ _))
  have HS2 := hide (rset_ex _ (setOne_lt st 3 (fldOne st 7)) 7 1 (by decide))
  rw [ret_st st h0] at HS2
  show Calls Tryd.prog 73 #[.agg #[.int .u32 st, .int .u32 en, .int .u32 ve, .int .u32 sc, .int .u32 ep, .int .u32 ca, .int .u32 va, .int .u64 ct]] w fun e w' => e = .returned (.tuple #[.agg #[.int .u32 (retSt st : Nat), .int .u32 en, .int .u32 ve, .int .u32 sc, .int .u32 ep, .int .u32 ca, .int .u32 va, .int .u64 ct], .int .u32 (ep : Nat)]) ∧ _
  generalize setOne st 3 (fldOne st 7) = x at *
  generalize fldOne st 7 = f at *
  generalize retSt st = r at *
  go_enter Tryd.func73, Tryd.ntmps73
  go_wp2_with (fail)
  go_region_with (first | (go_at_call 91; refine (HF.out _).mono ?_; rintro e w1 ⟨rfl, o1, o2, rfl⟩) | (go_at_call 90; refine (HS.out _).mono ?_; rintro e w2 ⟨rfl, o3, o4, rfl⟩))
  all_goals
    obtain ⟨W, hW⟩ : ∃ W, (((((w.alloc (.cells #[.int .u32 x, .int .u32 en, .int .u32 ve, .int .u32 sc, .int .u32 ep, .int .u32 ca, .int .u32 va, .int .u64 ct] 26)).alloc (.cells #[.int .u32 0, .int .u32 0, .int .u32 0, .int .u32 0, .int .u32 0, .int .u32 0, .int .u32 0, .int .u64 0] 26)).alloc o1).alloc o2).alloc o3).alloc o4 = W := ⟨_, rfl⟩
    have hR : RowAt W w.heap.size #[.int .u32 x, .int .u32 en, .int .u32 ve, .int .u32 sc, .int .u32 ep, .int .u32 ca, .int .u32 va, .int .u64 ct] 26 := hW ▸ (((((RowAt.new w _ _ _ rfl).al _).al _).al _).al _).al _
    have hZ : RowAt W (w.heap.size + 1) #[.int .u32 0, .int .u32 0, .int .u32 0, .int .u32 0, .int .u32 0, .int .u32 0, .int .u32 0, .int .u64 0] 26 := hW ▸ ((((RowAt.new _ _ _ _ (by simp)).al _).al _).al _).al _
    have HBe : Hid (Below w.heap.size w W) := by
      rw [← hW]
      repeat (first | exact Below.refl _ _ | refine Below.alloc ?_ (by simp <;> omega) _)
    have hlt := hZ.lt
    have hlt' : w.heap.size < W.heap.size := by omega
    have c0 : W.cell? ⟨w.heap.size, 0, none⟩ = some (.int .u32 (x : Nat)) := hR.cell 0
    have t0 := hR.thaw 0
    have HR := hide hR
    have HZ := hide hZ
    rw [hW]
    clear hW hR hZ
    go_wp2_with (first | (go_at_call 90; refine (HS2.out _).mono ?_; rintro e w3 ⟨rfl, o5, o6, rfl⟩))
    obtain ⟨X, hX⟩ : ∃ X, ((W.setCell ⟨w.heap.size, 0, none⟩ (.int .u32 (r : Nat))).alloc o5).alloc o6 = X := ⟨_, rfl⟩
    have hR2 : RowAt X w.heap.size #[.int .u32 r, .int .u32 en, .int .u32 ve, .int .u32 sc, .int .u32 ep, .int .u32 ca, .int .u32 va, .int .u64 ct] 26 := hX ▸ ((HR.out.put 0 _).al _).al _
    have hZ2 : RowAt X (w.heap.size + 1) #[.int .u32 0, .int .u32 0, .int .u32 0, .int .u32 0, .int .u32 0, .int .u32 0, .int .u32 0, .int .u64 0] 26 := hX ▸ ((HZ.out.far (by omega) 0 _).al _).al _
    have HBX : Hid (Below w.heap.size w X) := by
      rw [← hX]
      have h1 := HBe.out.setCell (p := ⟨w.heap.size, 0, none⟩) (Nat.le_refl _) (.int .u32 (r : Nat))
      exact (h1.alloc h1.size _).alloc (by have := h1.size; simp; omega) _
    rw [hX]
    clear hX HBe HR HZ c0 t0 hlt hlt'
    have c0 : X.cell? ⟨w.heap.size, 0, none⟩ = some (.int .u32 (r : Nat)) := hR2.cell 0
    have c1 : X.cell? ⟨w.heap.size, 1, none⟩ = some (.int .u32 (en : Nat)) := hR2.cell 1
    have c2 : X.cell? ⟨w.heap.size, 2, none⟩ = some (.int .u32 (ve : Nat)) := hR2.cell 2
    have c3 : X.cell? ⟨w.heap.size, 3, none⟩ = some (.int .u32 (sc : Nat)) := hR2.cell 3
    have c4 : X.cell? ⟨w.heap.size, 4, none⟩ = some (.int .u32 (ep : Nat)) := hR2.cell 4
    have c5 : X.cell? ⟨w.heap.size, 5, none⟩ = some (.int .u32 (ca : Nat)) := hR2.cell 5
    have c6 : X.cell? ⟨w.heap.size, 6, none⟩ = some (.int .u32 (va : Nat)) := hR2.cell 6
    have c7 : X.cell? ⟨w.heap.size, 7, none⟩ = some (.int .u64 (ct : Nat)) := hR2.cell 7
    have z0 : X.cell? ⟨w.heap.size + 1, 0, none⟩ = some (.int .u32 0) := hZ2.cell 0
    have f0 := hZ2.thaw 0
    have z1 : X.cell? ⟨w.heap.size + 1, 1, none⟩ = some (.int .u32 0) := hZ2.cell 1
    have f1 := hZ2.thaw 1
    have z2 : X.cell? ⟨w.heap.size + 1, 2, none⟩ = some (.int .u32 0) := hZ2.cell 2
    have f2 := hZ2.thaw 2
    have z3 : X.cell? ⟨w.heap.size + 1, 3, none⟩ = some (.int .u32 0) := hZ2.cell 3
    have f3 := hZ2.thaw 3
    have z4 : X.cell? ⟨w.heap.size + 1, 4, none⟩ = some (.int .u32 0) := hZ2.cell 4
    have f4 := hZ2.thaw 4
    have z5 : X.cell? ⟨w.heap.size + 1, 5, none⟩ = some (.int .u32 0) := hZ2.cell 5
    have f5 := hZ2.thaw 5
    have z6 : X.cell? ⟨w.heap.size + 1, 6, none⟩ = some (.int .u32 0) := hZ2.cell 6
    have f6 := hZ2.thaw 6
    have z7 : X.cell? ⟨w.heap.size + 1, 7, none⟩ = some (.int .u64 0) := hZ2.cell 7
    have f7 := hZ2.thaw 7
    have HR2 := hide hR2
    have HZ2 := hide hZ2
    clear hR2 hZ2
    have hF := HZ2.out.put8 (.int .u32 (r : Nat)) (.int .u32 (en : Nat)) (.int .u32 (ve : Nat)) (.int .u32 (sc : Nat)) (.int .u32 (ep : Nat)) (.int .u32 (ca : Nat)) (.int .u32 (va : Nat)) (.int .u64 (ct : Nat))
    have hB := below_put8 HBX.out (Nat.le_succ _) (.int .u32 (r : Nat)) (.int .u32 (en : Nat)) (.int .u32 (ve : Nat)) (.int .u32 (sc : Nat)) (.int .u32 (ep : Nat)) (.int .u32 (ca : Nat)) (.int .u32 (va : Nat)) (.int .u64 (ct : Nat))
    have HF := hide hF
    have HB := hide hB
    clear hF hB
    go_region
    all_goals go_wp2
    all_goals
      have hF := HF.out
      have hB := HB.out
      clear HF HB
      generalize ((((((((X.setCell ⟨w.heap.size + 1, 0, none⟩ (.int .u32 (r : Nat))).setCell ⟨w.heap.size + 1, 1, none⟩ (.int .u32 (en : Nat))).setCell ⟨w.heap.size + 1, 2, none⟩ (.int .u32 (ve : Nat))).setCell ⟨w.heap.size + 1, 3, none⟩ (.int .u32 (sc : Nat))).setCell ⟨w.heap.size + 1, 4, none⟩ (.int .u32 (ep : Nat))).setCell ⟨w.heap.size + 1, 5, none⟩ (.int .u32 (ca : Nat))).setCell ⟨w.heap.size + 1, 6, none⟩ (.int .u32 (va : Nat))).setCell ⟨w.heap.size + 1, 7, none⟩ (.int .u64 (ct : Nat))) = Y at hF hB ⊢
      refine bodyPost_ret (results_cell_tmp_row Tryd.results73 _ _ (w.heap.size + 1) _ _ _ _ rfl hF.dr.dr Tryd.underlying26 rfl size_rstate) rfl ?_
      exact ⟨rfl, hB.drew.drew⟩
end Go.Proofs.YtchjhpeogdkbmaaDoor
