/-
  What ring's Next answers of a ring that may be: the next chain, or none.
-/
import Derived.Test.YtbggkoahofnnjaaDoorJK13
import Derived.Test.YtbggkoahofnnjaaDoorJK14
import Derived.Test.YtbggkoahofnnjaaDoorJK8
namespace Go.Proofs.YtbggkoahofnnjaaDoor
open Go.RowKit
set_option linter.unusedVariables false
set_option linter.unusedSimpArgs false

attribute [local go_sem] Rg.at0 Rg.at1 Rg.at2 Rg.at3 Rg.at4 Rg.at5 dsc_at0 dsc_at1 dsc_at2 dsc_at3
theorem AreasAt.wentR {B : Nat} {O O' : Nat → Prop} {w w' : World} (h : AreasAt w) (hG : 0 < B) (hw : Went B O O' w w') : AreasAt w' := by
  intro d hd
  obtain ⟨h1, h2, h3⟩ := h d hd
  exact ⟨(hw.below.cell (p := ⟨0, d * 3, none⟩) hG).trans h1, (hw.below.cell (p := ⟨0, d * 3 + 1, none⟩) hG).trans h2, (hw.below.cell (p := ⟨0, d * 3 + 2, none⟩) hG).trans h3⟩
theorem AreasAt.belR {B : Nat} {w w' : World} (h : AreasAt w) (hG : 0 < B) (hw : Below B w w') : AreasAt w' := by
  intro d hd
  obtain ⟨h1, h2, h3⟩ := h d hd
  exact ⟨(hw.cell (p := ⟨0, d * 3, none⟩) hG).trans h1, (hw.cell (p := ⟨0, d * 3 + 1, none⟩) hG).trans h2, (hw.cell (p := ⟨0, d * 3 + 2, none⟩) hG).trans h3⟩
theorem base7r (w : World) (hA : AreasAt w) : Calls Tryd.prog 65 #[.int .i64 7, .int .u32 0] w fun e w' => e = .returned (.tuple #[.int .u32 2147483648, .int .u32 0]) ∧ Below w.heap.size w w' := base_any 7 0 (by decide) w hA
set_option maxHeartbeats 1000000 in
theorem rinmem_any (x : Nat) (hx : x < 4294967296) (w : World) (hA : AreasAt w) : Calls Tryd.prog 50 #[.int .u32 (x : Nat)] w fun e w' => e = .returned (.int .u32 (plM x : Nat)) ∧ Below w.heap.size w w' := by
  have HB := hide (base7r w hA)
  have HW := hide (plM_wrap x hx)
  clear hA hx
  go_enter Tryd.func50, Tryd.ntmps50
  go_wp2_with (first | (go_at_call 65; refine HB.out.mono ?_; rintro e W ⟨rfl, hb⟩))
  go_ret
  exact ⟨by rw [← HW.out]; rfl, hb⟩
set_option maxHeartbeats 1000000 in
theorem pages_b {w : World} {B b p c : Nat} {f : Nat → Nat} {O : Nat → Prop} (h : RamB w B b p f c O) : Calls Tryd.prog 66 #[.pointer (some ⟨b, 0, none⟩)] w fun e w' => e = .returned (.int .i64 (p : Nat)) ∧ w' = w := by
  obtain ⟨P, D, m, h1, h2, h3, h4, h5, h6⟩ := h.ex
  have hP := h1.pagesAt
  rw [h2] at hP
  have hc : w.cell? ⟨b, 0, none⟩ = some (.slice (some ⟨P, 0, none⟩) p p) := hP
  clear hP
  clear h1 h2 h3 h4 h5 h6 h
  go_enter Tryd.func66, Tryd.ntmps66
  go_wp2
  go_ret
  exact ⟨rfl, rfl⟩
set_option maxHeartbeats 1000000 in
theorem slot_any (r : Rg) (hc : chkR r = true) (n : Nat) (hn : n < 65536) (w : World) :
    Calls Tryd.prog 44 #[.agg r.cells, .int .u16 (n : Nat)] w fun e w' => e = .returned (.int .u32 (slotN r n : Nat)) ∧ Below w.heap.size w w' := by
  obtain ⟨k, hk, hk0, hk1⟩ := chkR_sz hc
  have hsl : slotN r n = n % k := by unfold slotN; rw [hk, Int.toNat_natCast]
  rw [hsl]
  obtain ⟨sz, de, av, us, la, pu⟩ := r
  simp only at hk
  subst hk
  clear hc hsl
  have hk0' : (k : Int) ≠ 0 := by omega
  have hkk : ((k : Int) == 0) = false := by simp; omega
  go_enter Tryd.func44, Tryd.ntmps44
  go_wp2_with (first | ((with_reducible refine bx_rp w.heap.size ⟨(k : Int), de, av, us, la, pu⟩ ?_ ?_ ?_); exact rfl; exact rfl; intro W hr hb hz; have fx := hr.cell))
  go_ret
  refine ⟨?_, hb⟩
  congr 2
set_option maxHeartbeats 1000000 in
theorem ishead_any (r : Rg) (n : Int) (w : World) :
    Calls Tryd.prog 51 #[.agg r.cells, .int .i64 n] w fun e w' => e = .returned (.bool (decide (0 ≤ n ∧ n < r.sz))) ∧ Below w.heap.size w w' := by
  by_cases h0 : 0 ≤ n
  · have e : decide (0 ≤ n ∧ n < r.sz) = decide (n < r.sz) := by simp [h0]
    rw [e]
    go_enter Tryd.func51, Tryd.ntmps51
    go_wp2_with (first | ((with_reducible refine bx_rp w.heap.size r ?_ ?_ ?_); exact rfl; exact rfl; intro W hr hb hz; have fx := hr.cell))
    go_ret
    exact ⟨rfl, hb⟩
  · have e : decide (0 ≤ n ∧ n < r.sz) = false := by simp [h0]
    rw [e]
    have h0' : decide (0 ≤ n) = false := by simp [h0]
    go_enter Tryd.func51, Tryd.ntmps51
    go_wp2_with (first | ((with_reducible refine bx_rp w.heap.size r ?_ ?_ ?_); exact rfl; exact rfl; intro W hr hb hz; have fx := hr.cell))
    go_ret
    exact ⟨rfl, hb⟩
set_option maxHeartbeats 1000000 in
theorem marks_any (g : Nat → Nat) (hg : g 3 < 4294967296) (w : World) :
    Calls Tryd.prog 62 #[.agg (dscV g)] w fun e w' => e = .returned (.int .u32 (g 3 % 65536 : Nat)) ∧ Below w.heap.size w w' := by
  obtain ⟨v, hv⟩ : ∃ v, g 3 = v := ⟨_, rfl⟩
  rw [hv] at hg ⊢
  go_enter Tryd.func62, Tryd.ntmps62
  go_wp2_with (first | ((with_reducible refine bx_dp w.heap.size g ?_ ?_ ?_); exact rfl; exact rfl; intro W hr hb hz; have fx := hr.cell 3; rw [dsc_at3, hv] at fx; clear hr))
  go_ret
  exact ⟨by show Ending.returned (.int .u32 (bits .and .u32 (v : Int) ((65535 : Nat) : Int))) = _; rw [u32_and_nat v 65535 hg (by decide), show v &&& 65535 = v % 65536 from Nat.and_two_pow_sub_one_eq_mod v 16], hb⟩
set_option maxHeartbeats 1000000 in
theorem next_any (g : Nat → Nat) (hg : g 3 < 4294967296) (w : World) :
    Calls Tryd.prog 59 #[.agg (dscV g)] w fun e w' => e = .returned (.int .i64 (g 3 / 65536 : Nat)) ∧ Below w.heap.size w w' := by
  obtain ⟨v, hv⟩ : ∃ v, g 3 = v := ⟨_, rfl⟩
  rw [hv] at hg ⊢
  go_enter Tryd.func59, Tryd.ntmps59
  go_wp2_with (first | ((with_reducible refine bx_dp w.heap.size g ?_ ?_ ?_); exact rfl; exact rfl; intro W hr hb hz; have fx := hr.cell 3; rw [dsc_at3, hv] at fx; clear hr))
  go_ret
  refine ⟨?_, hb⟩
  congr 2
theorem ne_cast (n : Nat) : (((n : Nat) : Int) != 0) = decide (n ≠ 0) := by
  rcases Nat.eq_zero_or_pos n with e | e
  · subst e; rfl
  · rw [show (((n : Nat) : Int) != 0) = true by simp; omega]; exact (decide_eq_true (by omega)).symm
def hasD (g : Nat → Nat) (k : Nat) : Bool := decide (g 3 % 65536 &&& k ≠ 0)
set_option maxHeartbeats 1000000 in
theorem hasd_any (g : Nat → Nat) (hg : g 3 < 4294967296) (k : Nat) (hk : k < 4294967296) (w : World) :
    Calls Tryd.prog 48 #[.agg (dscV g), .int .u32 (k : Nat)] w fun e w' => e = .returned (.bool (hasD g k)) ∧ Below w.heap.size w w' := by
  have HM := hide (fun W => marks_any g hg W)
  unfold hasD
  obtain ⟨v, hv⟩ : ∃ v, g 3 % 65536 = v := ⟨_, rfl⟩
  have hvl : v < 65536 := by omega
  rw [hv] at HM ⊢
  clear hv hg
  go_enter Tryd.func48, Tryd.ntmps48
  go_wp2_with (first | ((with_reducible refine bx_dp w.heap.size g ?_ ?_ ?_); exact rfl; exact rfl; intro W hr hb hz) | ((with_reducible refine ld_dp w.heap.size _ hr ?_ ?_ ?_); exact rfl; exact rfl) | (go_at_call 62; (with_reducible refine (HM.out _).mono ?_); rintro e W ⟨rfl, hbc⟩; replace hr := hr.bl hbc; replace hb := below_bl rfl hb hbc))
  go_ret
  exact ⟨by show Ending.returned (.bool (bits .and .u32 (v : Int) (k : Int) != 0)) = _; rw [u32_and_nat v k (by omega) hk]; rw [ne_cast], hb⟩
set_option maxHeartbeats 1000000 in
theorem isin_b {w : World} {B b p c : Nat} {f : Nat → Nat} {O : Nat → Prop} (h : RamB w B b p f c O) (hA : AreasAt w) (x n : Nat) (hx : x < 4294967296) (hn : n < 9223372036854775808) : Calls Tryd.prog 52 #[.pointer (some ⟨b, 0, none⟩), .int .u32 (x : Nat), .int .u64 (n : Nat)] w fun e w' => e = .returned (.bool (plB p x n)) ∧ Below w.heap.size w w' := by
  have HI := hide (rinmem_any x hx w hA)
  have HP : Hid (∀ W, Below w.heap.size w W → Calls Tryd.prog 66 #[.pointer (some ⟨b, 0, none⟩)] W fun e w' => e = .returned (.int .i64 (p : Nat)) ∧ w' = W) := hide (fun W hb => pages_b (h.bl hb))
  have hp := h.few
  have hl := plM_lt hx
  unfold plB
  generalize plM x = v at HI hl ⊢
  clear h hA hx
  have ew : ((v : Int) + (n : Int)) % 18446744073709551616 = (v : Int) + n := by omega
  by_cases h0 : n = 0
  · subst h0
    rw [show decide (0 = 0 ∨ v + 0 ≤ 4096 * p) = true by simp]
    clear HI HP ew
    go_enter Tryd.func52, Tryd.ntmps52
    go_wp2
    go_ret
    exact ⟨rfl, Below.refl _ _⟩
  · have t0 : ((n : Int) == 0) = false := by simp; omega
    have e : decide (n = 0 ∨ v + n ≤ 4096 * p) = decide ((v : Int) + n ≤ (p : Int) * 4096) := by
      congr 1; exact propext ⟨fun k => by omega, fun k => by omega⟩
    rw [e]
    clear e h0
    go_enter Tryd.func52, Tryd.ntmps52
    go_wp2_with (first | (go_at_call 50; (with_reducible refine HI.out.mono ?_); rintro e W ⟨rfl, hb⟩) | (go_at_call 66; (with_reducible refine (HP.out _ hb).mono ?_); rintro e W2 ⟨rfl, rfl⟩))
    go_ret
    refine ⟨?_, hb⟩
    congr 2
end Go.Proofs.YtbggkoahofnnjaaDoor
namespace Go.Proofs.YtbggkoahofnnjaaDoor
open Go.RowKit
set_option linter.unusedVariables false
set_option linter.unusedSimpArgs false

attribute [local go_sem] Rg.at0 Rg.at1 Rg.at2 Rg.at3 Rg.at4 Rg.at5
set_option maxHeartbeats 1000000 in
theorem rcheckw_any (r : Rg) (hr0 : r.Ok) (b : Nat) (w : World) :
    Calls Tryd.prog 42 #[.agg r.cells, .pointer (some ⟨b, 0, none⟩)] w fun e w' => e = .returned (errR (if chkR r then 0 else 1)) ∧ Below w.heap.size w w' := by
  have HC := hide (fun W => rcheck_any r hr0 W)
  generalize errR _ = z at HC ⊢
  go_enter Tryd.func42, Tryd.ntmps42
  go_wp2_with (first | ((with_reducible refine bx_rp w.heap.size r ?_ ?_ ?_); exact rfl; exact rfl; intro W hr hb hz) | ((with_reducible refine ld_rp w.heap.size _ hr ?_ ?_ ?_); exact rfl; exact rfl) | (go_at_call 56; (with_reducible refine (HC.out _).mono ?_); rintro e W ⟨rfl, hbc⟩; replace hr := hr.bl hbc; replace hb := below_bl rfl hb hbc))
  go_ret
  exact ⟨rfl, hb⟩
end Go.Proofs.YtbggkoahofnnjaaDoor
namespace Go.Proofs.YtbggkoahofnnjaaDoor
open Go.RowKit
set_option linter.unusedVariables false
set_option linter.unusedSimpArgs false

set_option maxHeartbeats 1000000 in
theorem rload_ok {w : World} {B b p c : Nat} {f : Nat → Nat} {O : Nat → Prop} (h : RamB w B b p f c O) (hA : AreasAt w) (hG : 0 < B) (x k : Nat) (hx : x < 4294967296) (hk : k = 1 ∨ k = 2 ∨ k = 4) (hal : x % k = 0) (h0 : plB p x k = true) : Calls Tryd.prog 43 #[.pointer (some ⟨b, 0, none⟩), .int .u32 (x : Nat), .int .i64 (k : Nat)] w fun e w' => e = .returned (.tuple #[.int .u32 (numF f (plM x) k : Nat), .nilIface]) ∧ ∃ O', RamB w' B b p f c O' ∧ Went B O O' w w' := by
  have HI := hide (fun W hA => rinmem_any x hx W hA)
  have hM := h
  have hW := Went.refl B O w
  have hB := h.base
  have hl := plM_lt hx
  have hka := plM_al x k (by omega) hal
  have hin := plB_in h0 (by omega)
  clear h h0
  have HL : Hid (∀ W O1, RamB W B b p f c O1 → Calls Tryd.prog 57 #[.pointer (some ⟨b, 0, none⟩), .int .u32 (plM x : Nat), .int .i64 (k : Nat)] W fun e w' => e = .returned (.tuple #[.int .u32 (numF f (plM x) k : Nat), .nilIface]) ∧ ∃ O', RamB w' B b p f c O' ∧ Went B O1 O' W w') := hide (fun W O1 hM => load_b hM (plM x) k hl hk hka hin)
  generalize numF f (plM x) k = v at HL ⊢
  clear hka hin hl
  go_enter Tryd.func43, Tryd.ntmps43
  go_wp2_with (first | (go_at_call 50; (with_reducible refine (HI.out _ hA).mono ?_); rintro e W ⟨rfl, hbc⟩; replace hM := hM.bl hbc; replace hW := hW.bl hbc hB; replace hA := hA.bl hbc; replace hB := Nat.le_trans hB hbc.size) | (go_at_call 57; (with_reducible refine (HL.out _ _ hM).mono ?_); rintro e W2 ⟨rfl, O2, hM2, hW2⟩; replace hW := hW.trans hW2; replace hM := hM2))
  go_ret2
  exact ⟨rfl, _, hM, hW⟩
set_option maxHeartbeats 1000000 in
theorem rload_no {w : World} {B b p c : Nat} {f : Nat → Nat} {O : Nat → Prop} (h : RamB w B b p f c O) (hA : AreasAt w) (hG : 0 < B) (x k : Nat) (hx : x < 4294967296) (hk : k = 1 ∨ k = 2 ∨ k = 4) (hal : x % k = 0) (h0 : plB p x k = false) : Calls Tryd.prog 43 #[.pointer (some ⟨b, 0, none⟩), .int .u32 (x : Nat), .int .i64 (k : Nat)] w fun e w' => e = .returned (.tuple #[.int .u32 0, .iface 59 (.int .i64 22)]) ∧ ∃ O', RamB w' B b p f c O' ∧ Went B O O' w w' := by
  have HI := hide (fun W hA => rinmem_any x hx W hA)
  have hM := h
  have hW := Went.refl B O w
  have hB := h.base
  have hl := plM_lt hx
  have hka := plM_al x k (by omega) hal
  have hin := plB_out h0
  clear h h0
  have HL : Hid (∀ W O1, RamB W B b p f c O1 → Calls Tryd.prog 57 #[.pointer (some ⟨b, 0, none⟩), .int .u32 (plM x : Nat), .int .i64 (k : Nat)] W fun e w' => (∃ z : Int, e = .returned (.tuple #[.int .u32 0, .iface 59 (.int .i64 z)])) ∧ w' = W) := hide (fun W O1 hM => load_bad_b hM (plM x) k hl (.inl hin) hk)
  clear hka hin hl
  go_enter Tryd.func43, Tryd.ntmps43
  go_wp2_with (first | (go_at_call 50; (with_reducible refine (HI.out _ hA).mono ?_); rintro e W ⟨rfl, hbc⟩; replace hM := hM.bl hbc; replace hW := hW.bl hbc hB; replace hA := hA.bl hbc; replace hB := Nat.le_trans hB hbc.size) | (go_at_call 57; (with_reducible refine (HL.out _ _ hM).mono ?_); rintro e W2 ⟨⟨z, rfl⟩, rfl⟩))
  go_ret2
  exact ⟨rfl, _, hM, hW⟩
set_option maxHeartbeats 1000000 in
theorem rstore_yes {w : World} {B b p c : Nat} {f : Nat → Nat} {O : Nat → Prop} (h : RamB w B b p f c O) (hA : AreasAt w) (hG : 0 < B) (x k : Nat) (hx : x < 4294967296) (hk : k = 1 ∨ k = 2 ∨ k = 4) (hal : x % k = 0) (h0 : plB p x k = true) (v : Nat) (hv : v < 4294967296) (hc : c ≤ 1000000000) : Calls Tryd.prog 53 #[.pointer (some ⟨b, 0, none⟩), .int .u32 (x : Nat), .int .i64 (k : Nat), .int .u32 (v : Nat)] w fun e w' => e = .returned .nilIface ∧ ∃ O', RamB w' B b p (wroteF f (plM x) (numB v k)) (c + 1) O' ∧ Went B O O' w w' := by
  have HI := hide (fun W hA => rinmem_any x hx W hA)
  have hM := h
  have hW := Went.refl B O w
  have hB := h.base
  have hl := plM_lt hx
  have hka := plM_al x k (by omega) hal
  have hin := plB_in h0 (by omega)
  clear h h0
  have HL : Hid (∀ W O1, RamB W B b p f c O1 → Calls Tryd.prog 8 #[.pointer (some ⟨b, 0, none⟩), .int .u32 (plM x : Nat), .int .i64 (k : Nat), .int .u32 (v : Nat)] W fun e w' => e = .returned .nilIface ∧ ∃ O', RamB w' B b p (wroteF f (plM x) (numB v k)) (c + 1) O' ∧ Went B O1 O' W w') := hide (fun W O1 hM => store_b hM (plM x) k hl hk hka hin v hv hc)
  clear hka hin hl
  go_enter Tryd.func53, Tryd.ntmps53
  go_wp2_with (first | (go_at_call 50; (with_reducible refine (HI.out _ hA).mono ?_); rintro e W ⟨rfl, hbc⟩; replace hM := hM.bl hbc; replace hW := hW.bl hbc hB; replace hA := hA.bl hbc; replace hB := Nat.le_trans hB hbc.size) | (go_at_call 8; (with_reducible refine (HL.out _ _ hM).mono ?_); rintro e W2 ⟨rfl, O2, hM2, hW2⟩; replace hW := hW.trans hW2))
  go_ret
  exact ⟨rfl, _, hM2, hW⟩
set_option maxHeartbeats 1000000 in
theorem rstore_no {w : World} {B b p c : Nat} {f : Nat → Nat} {O : Nat → Prop} (h : RamB w B b p f c O) (hA : AreasAt w) (hG : 0 < B) (x k : Nat) (hx : x < 4294967296) (hk : k = 1 ∨ k = 2 ∨ k = 4) (hal : x % k = 0) (h0 : plB p x k = false) (v : Nat) (hv : v < 4294967296) : Calls Tryd.prog 53 #[.pointer (some ⟨b, 0, none⟩), .int .u32 (x : Nat), .int .i64 (k : Nat), .int .u32 (v : Nat)] w fun e w' => e = .returned (.iface 59 (.int .i64 22)) ∧ ∃ O', RamB w' B b p f c O' ∧ Went B O O' w w' := by
  have HI := hide (fun W hA => rinmem_any x hx W hA)
  have hM := h
  have hW := Went.refl B O w
  have hB := h.base
  have hl := plM_lt hx
  have hka := plM_al x k (by omega) hal
  have hin := plB_out h0
  clear h h0
  have HL : Hid (∀ W O1, RamB W B b p f c O1 → Calls Tryd.prog 8 #[.pointer (some ⟨b, 0, none⟩), .int .u32 (plM x : Nat), .int .i64 (k : Nat), .int .u32 (v : Nat)] W fun e w' => (∃ z : Int, e = .returned (.iface 59 (.int .i64 z))) ∧ w' = W) := hide (fun W O1 hM => store_bad_b hM (plM x) k _ hl (Or.inl hin) hk)
  clear hka hin hl
  go_enter Tryd.func53, Tryd.ntmps53
  go_wp2_with (first | (go_at_call 50; (with_reducible refine (HI.out _ hA).mono ?_); rintro e W ⟨rfl, hbc⟩; replace hM := hM.bl hbc; replace hW := hW.bl hbc hB; replace hA := hA.bl hbc; replace hB := Nat.le_trans hB hbc.size) | (go_at_call 8; (with_reducible refine (HL.out _ _ hM).mono ?_); rintro e W2 ⟨⟨z, rfl⟩, rfl⟩))
  go_ret
  exact ⟨rfl, _, hM, hW⟩
end Go.Proofs.YtbggkoahofnnjaaDoor
namespace Go.Proofs.YtbggkoahofnnjaaDoor
open Go.RowKit
set_option linter.unusedVariables false
set_option linter.unusedSimpArgs false

attribute [local go_sem] Rg.at0 Rg.at1 Rg.at2 Rg.at3 Rg.at4 Rg.at5
theorem AreasAt.onlyR {w W : World} {g : Nat} (h : AreasAt w) (ho : Only g w W) (hg : 0 < g) : AreasAt W := by
  have e : W.heap[0]? = w.heap[0]? := ho.row _ (by omega)
  intro d hd
  obtain ⟨h1, h2, h3⟩ := h d hd
  exact ⟨(cell_of_heap e _).trans h1, (cell_of_heap e _).trans h2, (cell_of_heap e _).trans h3⟩
theorem AreasAt.drR {w : World} (h : AreasAt w) : AreasAt w.drew := h
def avC (r : Rg) : Nat := t32 (r.av + 2)
def avH (r : Rg) : Nat := t32 (r.av + 4 + 2 * slotN r r.la)
def ahN (r : Rg) (cnt : Nat) : Nat := (cnt + 65536 - r.la) % 65536
def takenR (r : Rg) : Rg := { r with la := (r.la + 1) % 65536 }
set_option maxHeartbeats 1000000 in
theorem next_none (r : Rg) (hr0 : r.Ok) (hc : chkR r = true) {w : World} {B b p c : Nat} {f : Nat → Nat} {O : Nat → Prop} (h : RamB w B b p f c O) (hA : AreasAt w) (hG : 0 < B) (h0 : plB p (avC r) 2 = true) (h1 : ahN r (numF f (plM (avC r)) 2) = 0) : Calls Tryd.prog 28 #[.agg r.cells, .pointer (some ⟨b, 0, none⟩)] w fun e w' => e = .returned (.tuple #[.agg zeroRg.cells, .int .i64 0, .bool false, .nilIface]) ∧ ∃ O', RamB w' B b p f c O' ∧ Went B O O' w w' := by
  have hB0 := h.base
  have hGw : 0 < w.heap.size := Nat.lt_of_lt_of_le hG hB0
  have hA0 := hA
  clear hA
  obtain ⟨k, hk, hk0, hk1⟩ := chkR_sz hc
  obtain ⟨al1, al2, al3⟩ := chkR_al hc
  have HC : Hid (∀ W, Calls Tryd.prog 42 #[.agg r.cells, .pointer (some ⟨b, 0, none⟩)] W fun e w' => e = .returned .nilIface ∧ Below W.heap.size W w') := hide (fun W => by have := rcheckw_any r hr0 b W; rw [hc] at this; exact this)
  have hla := hr0.la
  have hav := hr0.av
  have HL1 : Hid (∀ W O1, RamB W B b p f c O1 → AreasAt W → Calls Tryd.prog 43 #[.pointer (some ⟨b, 0, none⟩), .int .u32 (avC r : Nat), .int .i64 2] W fun e w' => e = .returned (.tuple #[.int .u32 (numF f (plM (avC r)) 2 : Nat), .nilIface]) ∧ ∃ O', RamB w' B b p f c O' ∧ Went B O1 O' W w') := hide (fun W O1 hM hA => rload_ok hM hA hG (avC r) 2 (by unfold avC t32; omega) (by decide) (by unfold avC t32; omega) h0)
  have hcl : numF f (plM (avC r)) 2 < 65536 := numF_lt h.small _ 2
  have e1 : ((r.av : Int) + 2) % 4294967296 = ((avC r : Nat) : Int) := by unfold avC t32; omega
  have ew : IntKind.u16.wrap (((numF f (plM (avC r)) 2 : Nat) : Int) - (r.la : Int)) = ((ahN r (numF f (plM (avC r)) 2) : Nat) : Int) := by rw [IntKind.wrap_u16]; unfold ahN; omega
  have ea : (((numF f (plM (avC r)) 2 : Nat) : Int) - (r.la : Int)) % 65536 = ((ahN r (numF f (plM (avC r)) 2) : Nat) : Int) := by unfold ahN; omega
  rw [h1] at ea ew
  generalize numF f (plM (avC r)) 2 = cnt at *
  generalize avC r = aC at *
  clear hk hr0 hc al1 al2 al3 h0 h1
  go_enter Tryd.func28, Tryd.ntmps28
  go_wp2_with (first | ((with_reducible refine bx_rp w.heap.size r ?_ ?_ ?_); exact rfl; exact rfl; intro W hr hb hz) | ((with_reducible refine al_rp (w.heap.size + 1) ?_ ?_); exact hz.out; intro W hq hb' hz'; replace hr := hr.bl (hz.out ▸ hb'); replace hb := hb.trans (hb'.mono (by omega)); replace hz := hz'; have hM := h.bl hb; have hW := Went.of (O := O) hb hB0; have hA := hA0.bl hb; have hF := h.far 2; have hS : w.heap.size + 2 ≤ W.heap.size := Nat.le_of_eq hz.out.symm; have hB : B ≤ W.heap.size := Nat.le_trans hB0 hb.size; clear hb hz hb' hz') | ((with_reducible refine ld_rp w.heap.size _ hr ?_ ?_ ?_); exact rfl; exact rfl) | (go_at_call 42; (with_reducible refine (HC.out _).mono ?_); rintro e W ⟨rfl, hbc⟩; replace hM := hM.bl hbc; replace hW := hW.bl hbc hB; replace hA := hA.bl hbc; replace hB := Nat.le_trans hB hbc.size; replace hS := Nat.le_trans hS hbc.size; replace hr := hr.bl hbc; replace hq := hq.bl hbc) | ((with_reducible refine ld_rav w.heap.size _ _ hr ?_ ?_ ?_); exact rfl; exact rfl) | ((with_reducible refine ld_rla w.heap.size _ _ hr ?_ ?_ ?_); exact rfl; exact rfl) | (go_at_call 43; (with_reducible refine (HL1.out _ _ hM hA).mono ?_); rintro e W2 ⟨rfl, O2, hM2, hW2⟩; replace hr := hW2.row hr (hF.at 0 (by omega)); replace hq := hW2.row hq (hF.at 1 (by omega)); replace hA := hA.wentR hG hW2; replace hF := hF.went hW2 hS; replace hS := Nat.le_trans hS hW2.size; replace hW := hW.trans hW2; replace hB := Nat.le_trans hB hW2.size; replace hM := hM2; clear hM2 hW2) | ((with_reducible refine st_rp (w.heap.size + 1) _ zeroRg hq ?_ ?_ ?_); exact rfl; exact rfl; intro W hnew ho; replace hr := hr.only ho (by omega); replace hM := hM.only ho (hF.at 1 (by omega)); replace hA := hA.onlyR ho (by omega); replace hW := hW.only ho (by omega) (by omega); replace hS := (show w.heap.size + 2 ≤ W.heap.size by rw [ho.size]; exact hS); replace hB := (show B ≤ W.heap.size by rw [ho.size]; exact hB); replace hq := hnew; clear hnew ho))
  refine bodyPost_ret (results_cell_uuu Tryd.results28 _ _ (w.heap.size + 1) _ _ _ rfl hq Tryd.underlying36 rfl size_rp) rfl ?_
  exact ⟨rfl, _, hM, hW⟩
set_option maxHeartbeats 2000000 in
theorem next_took (r : Rg) (hr0 : r.Ok) (hc : chkR r = true) {w : World} {B b p c : Nat} {f : Nat → Nat} {O : Nat → Prop} (h : RamB w B b p f c O) (hA : AreasAt w) (hG : 0 < B) (h0 : plB p (avC r) 2 = true) (h1 : ahN r (numF f (plM (avC r)) 2) ≠ 0) (h2 : (ahN r (numF f (plM (avC r)) 2) : Int) ≤ r.sz) (h3 : plB p (avH r) 2 = true) (h4 : (numF f (plM (avH r)) 2 : Int) < r.sz) :
    Calls Tryd.prog 28 #[.agg r.cells, .pointer (some ⟨b, 0, none⟩)] w fun e w' => e = .returned (.tuple #[.agg (takenR r).cells, .int .i64 (numF f (plM (avH r)) 2 : Nat), .bool true, .nilIface]) ∧ ∃ O', RamB w' B b p f c O' ∧ Went B O O' w w' := by
  have hB0 := h.base
  have hGw : 0 < w.heap.size := Nat.lt_of_lt_of_le hG hB0
  have hA0 := hA
  clear hA
  obtain ⟨k, hk, hk0, hk1⟩ := chkR_sz hc
  obtain ⟨al1, al2, al3⟩ := chkR_al hc
  have HC : Hid (∀ W, Calls Tryd.prog 42 #[.agg r.cells, .pointer (some ⟨b, 0, none⟩)] W fun e w' => e = .returned .nilIface ∧ Below W.heap.size W w') := hide (fun W => by have := rcheckw_any r hr0 b W; rw [hc] at this; exact this)
  have hla := hr0.la
  have hav := hr0.av
  have HL1 : Hid (∀ W O1, RamB W B b p f c O1 → AreasAt W → Calls Tryd.prog 43 #[.pointer (some ⟨b, 0, none⟩), .int .u32 (avC r : Nat), .int .i64 2] W fun e w' => e = .returned (.tuple #[.int .u32 (numF f (plM (avC r)) 2 : Nat), .nilIface]) ∧ ∃ O', RamB w' B b p f c O' ∧ Went B O1 O' W w') := hide (fun W O1 hM hA => rload_ok hM hA hG (avC r) 2 (by unfold avC t32; omega) (by decide) (by unfold avC t32; omega) h0)
  have hcl : numF f (plM (avC r)) 2 < 65536 := numF_lt h.small _ 2
  have e1 : ((r.av : Int) + 2) % 4294967296 = ((avC r : Nat) : Int) := by unfold avC t32; omega
  have ew : IntKind.u16.wrap (((numF f (plM (avC r)) 2 : Nat) : Int) - (r.la : Int)) = ((ahN r (numF f (plM (avC r)) 2) : Nat) : Int) := by rw [IntKind.wrap_u16]; unfold ahN; omega
  have ea : (((numF f (plM (avC r)) 2 : Nat) : Int) - (r.la : Int)) % 65536 = ((ahN r (numF f (plM (avC r)) 2) : Nat) : Int) := by unfold ahN; omega
  have HL2 : Hid (∀ W O1, RamB W B b p f c O1 → AreasAt W → Calls Tryd.prog 43 #[.pointer (some ⟨b, 0, none⟩), .int .u32 (avH r : Nat), .int .i64 2] W fun e w' => e = .returned (.tuple #[.int .u32 (numF f (plM (avH r)) 2 : Nat), .nilIface]) ∧ ∃ O', RamB w' B b p f c O' ∧ Went B O1 O' W w') := hide (fun W O1 hM hA => rload_ok hM hA hG (avH r) 2 (by unfold avH t32; omega) (by decide) (by unfold avH t32; omega) h3)
  have hsl := slotN_lt hc r.la
  have HS : Hid (∀ W, Calls Tryd.prog 44 #[.agg r.cells, .int .u16 (r.la : Nat)] W fun e w' => e = .returned (.int .u32 (slotN r r.la : Nat)) ∧ Below W.heap.size W w') := hide (fun W => slot_any r hc r.la hla W)
  have e2 : (((r.av : Int) + 4) % 4294967296 + (2 * ((slotN r r.la : Nat) : Int))) % 4294967296 = ((avH r : Nat) : Int) := by unfold avH t32; omega
  have hdl : numF f (plM (avH r)) 2 < 65536 := numF_lt h.small _ 2
  generalize numF f (plM (avH r)) 2 = hd at *
  generalize avH r = aH at *
  generalize slotN r r.la = sl at *
  have e3 : Hid (IntKind.u32.wrap (2 * (sl : Int)) = 2 * (sl : Int)) := hide (by rw [IntKind.wrap_u32]; omega)
  have e4 : Hid (IntKind.u32.wrap ((r.av : Int) + 4) = ((r.av : Int) + 4) % 4294967296) := hide (by rw [IntKind.wrap_u32])
  have e5 : Hid (IntKind.u32.wrap (((r.av : Int) + 4) % 4294967296 + (2 * ((sl : Nat) : Int))) = (aH : Int)) := hide (by rw [IntKind.wrap_u32]; exact e2)
  generalize numF f (plM (avC r)) 2 = cnt at *
  generalize avC r = aC at *
  have hal : ahN r cnt < 65536 := Nat.mod_lt _ (by decide)
  generalize ahN r cnt = ah at *
  have t1 : ((ah : Int) == 0) = false := by simp; omega
  have t2 : decide (r.sz < (ah : Int)) = false := by simp; omega
  have t3 : decide (r.sz ≤ (hd : Int)) = false := by simp; omega
  have e6 : Hid (((r.la : Int) + 1) % 65536 = (((r.la + 1) % 65536 : Nat) : Int)) := hide (by omega)
  have htr : ({ r with la := (r.la + 1) % 65536 } : Rg) = takenR r := rfl
  clear hk hr0 hc al1 al2 al3 h0 h1 h2 h3 h4 e2
  go_enter Tryd.func28, Tryd.ntmps28
  go_wp2_with (first | ((with_reducible refine bx_rp w.heap.size r ?_ ?_ ?_); exact rfl; exact rfl; intro W hr hb hz) | ((with_reducible refine al_rp (w.heap.size + 1) ?_ ?_); exact hz.out; intro W hq hb' hz'; replace hr := hr.bl (hz.out ▸ hb'); replace hb := hb.trans (hb'.mono (by omega)); replace hz := hz'; have hM := h.bl hb; have hW := Went.of (O := O) hb hB0; have hA := hA0.bl hb; have hF := h.far 2; have hS : w.heap.size + 2 ≤ W.heap.size := Nat.le_of_eq hz.out.symm; have hB : B ≤ W.heap.size := Nat.le_trans hB0 hb.size; clear hb hz hb' hz') | ((with_reducible refine ld_rp w.heap.size _ hr ?_ ?_ ?_); exact rfl; exact rfl) | (go_at_call 42; (with_reducible refine (HC.out _).mono ?_); rintro e W ⟨rfl, hbc⟩; replace hM := hM.bl hbc; replace hW := hW.bl hbc hB; replace hA := hA.bl hbc; replace hB := Nat.le_trans hB hbc.size; replace hS := Nat.le_trans hS hbc.size; replace hr := hr.bl hbc; replace hq := hq.bl hbc) | ((with_reducible refine ld_rav w.heap.size _ _ hr ?_ ?_ ?_); exact rfl; exact rfl) | ((with_reducible refine ld_rla w.heap.size _ _ hr ?_ ?_ ?_); exact rfl; exact rfl) | (go_at_call 43; (with_reducible refine (HL1.out _ _ hM hA).mono ?_); rintro e W2 ⟨rfl, O2, hM2, hW2⟩; replace hr := hW2.row hr (hF.at 0 (by omega)); replace hq := hW2.row hq (hF.at 1 (by omega)); replace hA := hA.wentR hG hW2; replace hF := hF.went hW2 hS; replace hS := Nat.le_trans hS hW2.size; replace hW := hW.trans hW2; replace hB := Nat.le_trans hB hW2.size; replace hM := hM2; clear hM2 hW2))
  refine wp_region_held_drew (S := (fun V => RowAt V w.heap.size r.cells 36)) (by kernel_rfl) ?_ (fun hHeld => ?_)
  · exact hr.dr
  replace hM := hM.dr
  replace hW := hW.dr
  replace hA := hA.drR
  replace hS : w.heap.size + 2 ≤ (World.drew _).heap.size := hS
  replace hB : B ≤ (World.drew _).heap.size := hB
  replace hq := hq.dr
  generalize World.drew _ = V at hHeld hM hW hA hS hB hq ⊢
  clear hr
  refine wpAnyH_take (i := 0) (oi := ?oi1) (v := .pointer (some ⟨b, 0, none⟩)) ?hi1 (by kernel_rfl) (by kernel_rfl) (by kernel_rfl) ?hQ1 ?hy1 (by assumption) ?rest1
  case hi1 => (simp only [List.getElem?_toArray, List.getElem?_cons_zero]; rfl)
  case hQ1 => exact fun _ _ _ h => h
  case hy1 => exact Or.inl ⟨by rfl, by (intro w hSw; (try dsimp only at hSw); go_simp )⟩
  simp only [Act.put, List.setIfInBounds_toArray, List.set_cons_zero, List.set_cons_succ]
  refine wpAnyH_take (i := 1) (oi := ?oi2) (v := .pointer (some ⟨w.heap.size, 2, none⟩)) ?hi2 (by kernel_rfl) (by kernel_rfl) (by kernel_rfl) ?hQ2 ?hy2 (by assumption) ?rest2
  case hi2 => (simp only [List.getElem?_toArray, List.getElem?_cons_zero, List.getElem?_cons_succ]; rfl)
  case hQ2 => exact fun _ _ _ h => h
  case hy2 => exact Or.inl ⟨by rfl, by (intro w hSw; (try dsimp only at hSw); go_simp )⟩
  simp only [Act.put, List.setIfInBounds_toArray, List.set_cons_zero, List.set_cons_succ]
  refine wpAnyH_take (i := 2) (oi := ?oi3) (v := .int .u32 (r.av : Nat)) ?hi3 (by kernel_rfl) (by kernel_rfl) (by kernel_rfl) ?hQ3 ?hy3 (by assumption) ?rest3
  case hi3 => (simp only [List.getElem?_toArray, List.getElem?_cons_zero, List.getElem?_cons_succ]; rfl)
  case hQ3 => exact fun _ _ _ h => h
  case hy3 => exact y_rav w.heap.size r _ (fun V hV => hV) rfl
  simp only [Act.put, List.setIfInBounds_toArray, List.set_cons_zero, List.set_cons_succ]
  refine wpAnyH_take (i := 3) (oi := ?oi4) (v := .int .u32 (((r.av : Int) + 4) % 4294967296)) ?hi4 (by kernel_rfl) (by kernel_rfl) (by kernel_rfl) ?hQ4 ?hy4 (by assumption) ?rest4
  case hi4 => (simp only [List.getElem?_toArray, List.getElem?_cons_zero, List.getElem?_cons_succ]; rfl)
  case hQ4 => exact fun _ _ _ h => h
  case hy4 => exact Or.inl ⟨by rfl, by (intro w hSw; (try dsimp only at hSw); go_simp ; exact e4.out)⟩
  simp only [Act.put, List.setIfInBounds_toArray, List.set_cons_zero, List.set_cons_succ]
  refine wpAnyH_take (i := 4) (oi := ?oi5) (v := .agg r.cells) ?hi5 (by kernel_rfl) (by kernel_rfl) (by kernel_rfl) ?hQ5 ?hy5 (by assumption) ?rest5
  case hi5 => (simp only [List.getElem?_toArray, List.getElem?_cons_zero, List.getElem?_cons_succ]; rfl)
  case hQ5 => exact fun _ _ _ h => h
  case hy5 => exact y_rp w.heap.size r (fun V hV => hV) rfl rfl
  simp only [Act.put, List.setIfInBounds_toArray, List.set_cons_zero, List.set_cons_succ]
  refine wpAnyH_take (i := 5) (oi := ?oi6) (v := .pointer (some ⟨w.heap.size, 4, none⟩)) ?hi6 (by kernel_rfl) (by kernel_rfl) (by kernel_rfl) ?hQ6 ?hy6 (by assumption) ?rest6
  case hi6 => (simp only [List.getElem?_toArray, List.getElem?_cons_zero, List.getElem?_cons_succ]; rfl)
  case hQ6 => exact fun _ _ _ h => h
  case hy6 => exact Or.inl ⟨by rfl, by (intro w hSw; (try dsimp only at hSw); go_simp )⟩
  simp only [Act.put, List.setIfInBounds_toArray, List.set_cons_zero, List.set_cons_succ]
  refine wpAnyH_take (i := 6) (oi := ?oi7) (v := .int .u16 (r.la : Nat)) ?hi7 (by kernel_rfl) (by kernel_rfl) (by kernel_rfl) ?hQ7 ?hy7 (by assumption) ?rest7
  case hi7 => (simp only [List.getElem?_toArray, List.getElem?_cons_zero, List.getElem?_cons_succ]; rfl)
  case hQ7 => exact fun _ _ _ h => h
  case hy7 => exact y_rla w.heap.size r _ (fun V hV => hV) rfl
  simp only [Act.put, List.setIfInBounds_toArray, List.set_cons_zero, List.set_cons_succ]
  refine wpAnyH_ready (rs := [7]) (by kernel_rfl) (by simp) ?_
  refine AllReadyH.cons (o := ?oi8) ?hi8 (fun K hK => ?_) AllReadyH.nil
  case hi8 => (simp only [List.getElem?_toArray, List.getElem?_cons_zero, List.getElem?_cons_succ]; rfl)
  rw [if_pos (by rfl)]
  go_simp
  (with_reducible refine (HS.out _).mono ?_)
  rintro e V2 ⟨rfl, hbc⟩
  have hH2 := hide (hHeld.bl hbc)
  replace hM := hM.bl hbc
  replace hW := hW.bl hbc hB
  replace hA := hA.bl hbc
  replace hB := Nat.le_trans hB hbc.size
  replace hS := Nat.le_trans hS hbc.size
  replace hq := hq.bl hbc
  clear hHeld hbc
  go_simp
  refine hK.out _ _ ?_ (fun hHeld => ?_)
  · exact hH2.out
  clear hK K
  clear hH2
  refine wpAnyH_take (i := 8) (oi := ?oi9) (v := .int .u32 (2 * (sl : Int))) ?hi9 (by kernel_rfl) (by kernel_rfl) (by kernel_rfl) ?hQ9 ?hy9 (by assumption) ?rest9
  case hi9 => (simp only [List.getElem?_toArray, List.getElem?_cons_zero, List.getElem?_cons_succ]; rfl)
  case hQ9 => exact fun _ _ _ h => h
  case hy9 => exact Or.inl ⟨by rfl, by (intro w hSw; (try dsimp only at hSw); go_simp ; exact e3.out)⟩
  simp only [Act.put, List.setIfInBounds_toArray, List.set_cons_zero, List.set_cons_succ]
  refine wpAnyH_take (i := 9) (oi := ?oi10) (v := .int .u32 (aH : Nat)) ?hi10 (by kernel_rfl) (by kernel_rfl) (by kernel_rfl) ?hQ10 ?hy10 (by assumption) ?rest10
  case hi10 => (simp only [List.getElem?_toArray, List.getElem?_cons_zero, List.getElem?_cons_succ]; rfl)
  case hQ10 => exact fun _ _ _ h => h
  case hy10 => exact Or.inl ⟨by rfl, by (intro w hSw; (try dsimp only at hSw); go_simp ; exact e5.out)⟩
  simp only [Act.put, List.setIfInBounds_toArray, List.set_cons_zero, List.set_cons_succ]
  refine wpAnyH_ready (rs := [10]) (by kernel_rfl) (by simp) ?_
  refine AllReadyH.cons (o := ?oi11) ?hi11 (fun K hK => ?_) AllReadyH.nil
  case hi11 => (simp only [List.getElem?_toArray, List.getElem?_cons_zero, List.getElem?_cons_succ]; rfl)
  rw [if_pos (by rfl)]
  go_simp
  (with_reducible refine (HL2.out _ _ hM hA).mono ?_)
  rintro e V2 ⟨rfl, O2, hM2, hW2⟩
  have hH2 := hide (hW2.row hHeld (hF.at 0 (by omega)))
  replace hq := hW2.row hq (hF.at 1 (by omega))
  replace hA := hA.wentR hG hW2
  replace hF := hF.went hW2 hS
  replace hS := Nat.le_trans hS hW2.size
  replace hW := hW.trans hW2
  replace hB := Nat.le_trans hB hW2.size
  replace hM := hM2
  clear hM2 hW2 hHeld
  go_simp
  refine hK.out _ _ ?_ (fun hHeld => ?_)
  · exact hH2.out
  clear hK K
  clear hH2
  refine wpAnyH_take (i := 11) (oi := ?oi12) (v := .tuple #[.int .u32 (hd : Nat), .nilIface]) ?hi12 (by kernel_rfl) (by kernel_rfl) (by kernel_rfl) ?hQ12 ?hy12 (by assumption) ?rest12
  case hi12 => (simp only [List.getElem?_toArray, List.getElem?_cons_zero, List.getElem?_cons_succ]; rfl)
  case hQ12 => exact fun _ _ _ h => h
  case hy12 => exact Or.inl ⟨by rfl, by (intro w hSw; (try dsimp only at hSw); go_simp )⟩
  simp only [Act.put, List.setIfInBounds_toArray, List.set_cons_zero, List.set_cons_succ]
  refine wpAnyH_take (i := 12) (oi := ?oi13) (v := .int .u32 (hd : Nat)) ?hi13 (by kernel_rfl) (by kernel_rfl) (by kernel_rfl) ?hQ13 ?hy13 (by assumption) ?rest13
  case hi13 => (simp only [List.getElem?_toArray, List.getElem?_cons_zero, List.getElem?_cons_succ]; rfl)
  case hQ13 => exact fun _ _ _ h => h
  case hy13 => exact Or.inl ⟨by rfl, by (intro w hSw; (try dsimp only at hSw); go_simp )⟩
  simp only [Act.put, List.setIfInBounds_toArray, List.set_cons_zero, List.set_cons_succ]
  refine wpAnyH_take (i := 13) (oi := ?oi14) (v := .nilIface) ?hi14 (by kernel_rfl) (by kernel_rfl) (by kernel_rfl) ?hQ14 ?hy14 (by assumption) ?rest14
  case hi14 => (simp only [List.getElem?_toArray, List.getElem?_cons_zero, List.getElem?_cons_succ]; rfl)
  case hQ14 => exact fun _ _ _ h => h
  case hy14 => exact Or.inl ⟨by rfl, by (intro w hSw; (try dsimp only at hSw); go_simp )⟩
  simp only [Act.put, List.setIfInBounds_toArray, List.set_cons_zero, List.set_cons_succ]
  refine wpAnyH_take (i := 14) (oi := ?oi15) (v := .int .u32 (hd : Nat)) ?hi15 (by kernel_rfl) (by kernel_rfl) (by kernel_rfl) ?hQ15 ?hy15 (by assumption) ?rest15
  case hi15 => (simp only [List.getElem?_toArray, List.getElem?_cons_zero, List.getElem?_cons_succ]; rfl)
  case hQ15 => exact fun _ _ _ h => h
  case hy15 => exact Or.inl ⟨by rfl, by (intro w hSw; (try dsimp only at hSw); go_simp )⟩
  simp only [Act.put, List.setIfInBounds_toArray, List.set_cons_zero, List.set_cons_succ]
  refine wpAnyH_take (i := 15) (oi := ?oi16) (v := .nilIface) ?hi16 (by kernel_rfl) (by kernel_rfl) (by kernel_rfl) ?hQ16 ?hy16 (by assumption) ?rest16
  case hi16 => (simp only [List.getElem?_toArray, List.getElem?_cons_zero, List.getElem?_cons_succ]; rfl)
  case hQ16 => exact fun _ _ _ h => h
  case hy16 => exact Or.inl ⟨by rfl, by (intro w hSw; (try dsimp only at hSw); go_simp )⟩
  simp only [Act.put, List.setIfInBounds_toArray, List.set_cons_zero, List.set_cons_succ]
  refine wpAnyH_done (by kernel_rfl) ?_ _
  have hr := hHeld
  clear hHeld
  go_wp2_with (first | ((with_reducible refine ld_rsz w.heap.size _ _ hr ?_ ?_ ?_); exact rfl; exact rfl) | ((with_reducible refine ld_rla w.heap.size _ _ hr ?_ ?_ ?_); exact rfl; exact rfl) | ((with_reducible refine st_rla w.heap.size _ ((r.la + 1) % 65536) _ hr ?_ ?_ ?_); exact rfl; (exact congrArg _ e6.out); intro W hnew ho; rw [htr] at hnew; replace hq := hq.only ho (by omega); replace hM := hM.only ho (hF.at 0 (by omega)); replace hA := hA.onlyR ho (by omega); replace hW := hW.only ho (by omega) (by omega); replace hS := (show w.heap.size + 2 ≤ W.heap.size by rw [ho.size]; exact hS); replace hB := (show B ≤ W.heap.size by rw [ho.size]; exact hB); replace hr := hnew; clear hnew ho) | ((with_reducible refine ld_rp w.heap.size (takenR r) hr ?_ ?_ ?_); exact rfl; exact rfl) | ((with_reducible refine st_rp (w.heap.size + 1) _ (takenR r) hq ?_ ?_ ?_); exact rfl; exact rfl; intro W hnew ho; replace hr := hr.only ho (by omega); replace hM := hM.only ho (hF.at 1 (by omega)); replace hA := hA.onlyR ho (by omega); replace hW := hW.only ho (by omega) (by omega); replace hS := (show w.heap.size + 2 ≤ W.heap.size by rw [ho.size]; exact hS); replace hB := (show B ≤ W.heap.size by rw [ho.size]; exact hB); replace hq := hnew; clear hnew ho))
  refine bodyPost_ret (results_cell_uuu Tryd.results28 _ _ (w.heap.size + 1) _ _ _ rfl hq Tryd.underlying36 rfl size_rp) rfl ?_
  exact ⟨rfl, _, hM, hW⟩
end Go.Proofs.YtbggkoahofnnjaaDoor
