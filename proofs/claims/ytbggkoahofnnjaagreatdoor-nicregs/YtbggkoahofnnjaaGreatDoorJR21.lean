/-
  What ring's load and store answer.
-/
import Derived.Test.YtbggkoahofnnjaaGreatDoorJR19
import Derived.Test.YtbggkoahofnnjaaGreatDoorJR20
open Go.Proofs.Tryz
set_option linter.unusedVariables false
set_option linter.unusedSimpArgs false
namespace Go.Proofs.YtbggkoahofnnjaaGreatDoor
open Go.RowKit
set_option maxHeartbeats 1000000
attribute [local go_sem] Rg.at0 Rg.at1 Rg.at2 Rg.at3 Rg.at4 Rg.at5 dsc_at0 dsc_at1 dsc_at2 dsc_at3
theorem AreasAt.wentR {B : Nat} {O O' : Nat → Prop} {w w' : World} (h : AreasAt w) (hG : 2 < B) (hw : Went B O O' w w') : AreasAt w' := by
  intro d hd
  obtain ⟨h1, h2, h3⟩ := h d hd
  exact ⟨(hw.below.cell (p := ⟨2, d * 3, none⟩) hG).trans h1, (hw.below.cell (p := ⟨2, d * 3 + 1, none⟩) hG).trans h2, (hw.below.cell (p := ⟨2, d * 3 + 2, none⟩) hG).trans h3⟩
theorem AreasAt.belR {B : Nat} {w w' : World} (h : AreasAt w) (hG : 2 < B) (hw : Below B w w') : AreasAt w' := by
  intro d hd
  obtain ⟨h1, h2, h3⟩ := h d hd
  exact ⟨(hw.cell (p := ⟨2, d * 3, none⟩) hG).trans h1, (hw.cell (p := ⟨2, d * 3 + 1, none⟩) hG).trans h2, (hw.cell (p := ⟨2, d * 3 + 2, none⟩) hG).trans h3⟩
theorem base7r (w : World) (hA : AreasAt w) : Calls prog 129 #[.int .i64 7, .int .u32 0] w fun e w' => e = .returned (.tuple #[.int .u32 2147483648, .int .u32 0]) ∧ Below w.heap.size w w' := base_any 7 0 (by decide) w hA
theorem rinmem_any (x : Nat) (hx : x < 4294967296) (w : World) (hA : AreasAt w) : Calls prog 113 #[.int .u32 (x : Nat)] w fun e w' => e = .returned (.int .u32 (plM x : Nat)) ∧ Below w.heap.size w w' := by
  have HB := hide (base7r w hA)
  have HW := hide (plM_wrap x hx)
  clear hA hx
  go_enter func113, ntmps113
  go_wp2_with (first | (go_at_call 129; refine HB.out.mono ?_; rintro e W ⟨rfl, hb⟩))
  go_ret
  exact ⟨by rw [← HW.out]; rfl, hb⟩
theorem pages_b {w : World} {B b p c : Nat} {f : Nat → Nat} {O : Nat → Prop} (h : RamB w B b p f c O) : Calls prog 130 #[.pointer (some ⟨b, 0, none⟩)] w fun e w' => e = .returned (.int .i64 (p : Nat)) ∧ w' = w := by
  obtain ⟨P, D, m, h1, h2, h3, h4, h5, h6⟩ := h.ex
  have hP := h1.pagesAt
  rw [h2] at hP
  have hc : w.cell? ⟨b, 0, none⟩ = some (.slice (some ⟨P, 0, none⟩) p p) := hP
  clear hP
  clear h1 h2 h3 h4 h5 h6 h
  go_enter func130, ntmps130
  go_wp2
  go_ret
  exact ⟨rfl, rfl⟩
theorem slot_any (r : Rg) (hc : chkR r = true) (n : Nat) (hn : n < 65536) (w : World) :
    Calls prog 107 #[.agg r.cells, .int .u16 (n : Nat)] w fun e w' => e = .returned (.int .u32 (slotN r n : Nat)) ∧ Below w.heap.size w w' := by
  obtain ⟨k, hk, hk0, hk1⟩ := chkR_sz hc
  have hsl : slotN r n = n % k := by unfold slotN; rw [hk, Int.toNat_natCast]
  rw [hsl]
  obtain ⟨sz, de, av, us, la, pu⟩ := r
  simp only at hk
  subst hk
  clear hc hsl
  have hk0' : (k : Int) ≠ 0 := by omega
  have hkk : ((k : Int) == 0) = false := by simp; omega
  go_enter func107, ntmps107
  go_wp2_with (first | ((with_reducible refine bx_rp w.heap.size ⟨(k : Int), de, av, us, la, pu⟩ ?_ ?_ ?_); exact rfl; exact rfl; intro W hr hb hz; have fx := hr.cell))
  go_ret
  refine ⟨?_, hb⟩
  congr 2
theorem ishead_any (r : Rg) (n : Int) (w : World) :
    Calls prog 114 #[.agg r.cells, .int .i64 n] w fun e w' => e = .returned (.bool (decide (0 ≤ n ∧ n < r.sz))) ∧ Below w.heap.size w w' := by
  by_cases h0 : 0 ≤ n
  · have e : decide (0 ≤ n ∧ n < r.sz) = decide (n < r.sz) := by simp [h0]
    rw [e]
    go_enter func114, ntmps114
    go_wp2_with (first | ((with_reducible refine bx_rp w.heap.size r ?_ ?_ ?_); exact rfl; exact rfl; intro W hr hb hz; have fx := hr.cell))
    go_ret
    exact ⟨rfl, hb⟩
  · have e : decide (0 ≤ n ∧ n < r.sz) = false := by simp [h0]
    rw [e]
    have h0' : decide (0 ≤ n) = false := by simp [h0]
    go_enter func114, ntmps114
    go_wp2_with (first | ((with_reducible refine bx_rp w.heap.size r ?_ ?_ ?_); exact rfl; exact rfl; intro W hr hb hz; have fx := hr.cell))
    go_ret
    exact ⟨rfl, hb⟩
theorem marks_any (g : Nat → Nat) (hg : g 3 < 4294967296) (w : World) :
    Calls prog 126 #[.agg (dscV g)] w fun e w' => e = .returned (.int .u32 (g 3 % 65536 : Nat)) ∧ Below w.heap.size w w' := by
  obtain ⟨v, hv⟩ : ∃ v, g 3 = v := ⟨_, rfl⟩
  rw [hv] at hg ⊢
  go_enter func126, ntmps126
  go_wp2_with (first | ((with_reducible refine bx_dp w.heap.size g ?_ ?_ ?_); exact rfl; exact rfl; intro W hr hb hz; have fx := hr.cell 3; rw [dsc_at3, hv] at fx; clear hr))
  go_ret
  exact ⟨by show Ending.returned (.int .u32 (bits .and .u32 (v : Int) ((65535 : Nat) : Int))) = _; rw [u32_and_nat v 65535 hg (by decide), show v &&& 65535 = v % 65536 from Nat.and_two_pow_sub_one_eq_mod v 16], hb⟩
theorem next_any (g : Nat → Nat) (hg : g 3 < 4294967296) (w : World) :
    Calls prog 123 #[.agg (dscV g)] w fun e w' => e = .returned (.int .i64 (g 3 / 65536 : Nat)) ∧ Below w.heap.size w w' := by
  obtain ⟨v, hv⟩ : ∃ v, g 3 = v := ⟨_, rfl⟩
  rw [hv] at hg ⊢
  go_enter func123, ntmps123
  go_wp2_with (first | ((with_reducible refine bx_dp w.heap.size g ?_ ?_ ?_); exact rfl; exact rfl; intro W hr hb hz; have fx := hr.cell 3; rw [dsc_at3, hv] at fx; clear hr))
  go_ret
  refine ⟨?_, hb⟩
  congr 2
theorem ne_cast (n : Nat) : (((n : Nat) : Int) != 0) = decide (n ≠ 0) := by
  rcases Nat.eq_zero_or_pos n with e | e
  · subst e; rfl
  · rw [show (((n : Nat) : Int) != 0) = true by simp; omega]; exact (decide_eq_true (by omega)).symm
def hasD (g : Nat → Nat) (k : Nat) : Bool := decide (g 3 % 65536 &&& k ≠ 0)
theorem hasd_any (g : Nat → Nat) (hg : g 3 < 4294967296) (k : Nat) (hk : k < 4294967296) (w : World) :
    Calls prog 111 #[.agg (dscV g), .int .u32 (k : Nat)] w fun e w' => e = .returned (.bool (hasD g k)) ∧ Below w.heap.size w w' := by
  have HM := hide (fun W => marks_any g hg W)
  unfold hasD
  obtain ⟨v, hv⟩ : ∃ v, g 3 % 65536 = v := ⟨_, rfl⟩
  have hvl : v < 65536 := by omega
  rw [hv] at HM ⊢
  clear hv hg
  go_enter func111, ntmps111
  go_wp2_with (first | ((with_reducible refine bx_dp w.heap.size g ?_ ?_ ?_); exact rfl; exact rfl; intro W hr hb hz) | ((with_reducible refine ld_dp w.heap.size _ hr ?_ ?_ ?_); exact rfl; exact rfl) | (go_at_call 126; (with_reducible refine (HM.out _).mono ?_); rintro e W ⟨rfl, hbc⟩; replace hr := hr.bl hbc; replace hb := below_bl rfl hb hbc))
  go_ret
  exact ⟨by show Ending.returned (.bool (bits .and .u32 (v : Int) (k : Int) != 0)) = _; rw [u32_and_nat v k (by omega) hk]; rw [ne_cast], hb⟩
theorem isin_b {w : World} {B b p c : Nat} {f : Nat → Nat} {O : Nat → Prop} (h : RamB w B b p f c O) (hA : AreasAt w) (x n : Nat) (hx : x < 4294967296) (hn : n < 9223372036854775808) : Calls prog 115 #[.pointer (some ⟨b, 0, none⟩), .int .u32 (x : Nat), .int .u64 (n : Nat)] w fun e w' => e = .returned (.bool (plB p x n)) ∧ Below w.heap.size w w' := by
  have HI := hide (rinmem_any x hx w hA)
  have HP : Hid (∀ W, Below w.heap.size w W → Calls prog 130 #[.pointer (some ⟨b, 0, none⟩)] W fun e w' => e = .returned (.int .i64 (p : Nat)) ∧ w' = W) := hide (fun W hb => pages_b (h.bl hb))
  have hp := h.few
  have hl := plM_lt hx
  unfold plB
  generalize plM x = v at HI hl ⊢
  clear h hA hx
  have ew : ((v : Int) + (n : Int)) % 18446744073709551616 = (v : Int) + n := by omega
  by_cases h0 : n = 0
  · subst h0
    rw [show decide (0 = 0 ∨ v + 0 ≤ 4096 * p) = true by simp]
    clear HI HP ew
    go_enter func115, ntmps115
    go_wp2
    go_ret
    exact ⟨rfl, Below.refl _ _⟩
  · have t0 : ((n : Int) == 0) = false := by simp; omega
    have e : decide (n = 0 ∨ v + n ≤ 4096 * p) = decide ((v : Int) + n ≤ (p : Int) * 4096) := by
      congr 1; exact propext ⟨fun k => by omega, fun k => by omega⟩
    rw [e]
    clear e h0
    go_enter func115, ntmps115
    go_wp2_with (first | (go_at_call 113; (with_reducible refine HI.out.mono ?_); rintro e W ⟨rfl, hb⟩) | (go_at_call 130; (with_reducible refine (HP.out _ hb).mono ?_); rintro e W2 ⟨rfl, rfl⟩))
    go_ret
    refine ⟨?_, hb⟩
    congr 2
end Go.Proofs.YtbggkoahofnnjaaGreatDoor
namespace Go.Proofs.YtbggkoahofnnjaaGreatDoor
open Go.RowKit
set_option maxHeartbeats 1000000
attribute [local go_sem] Rg.at0 Rg.at1 Rg.at2 Rg.at3 Rg.at4 Rg.at5
theorem rcheckw_any (r : Rg) (hr0 : r.Ok) (b : Nat) (w : World) :
    Calls prog 105 #[.agg r.cells, .pointer (some ⟨b, 0, none⟩)] w fun e w' => e = .returned (errR (if chkR r then 0 else 1)) ∧ Below w.heap.size w w' := by
  have HC := hide (fun W => rcheck_any r hr0 W)
  generalize errR _ = z at HC ⊢
  go_enter func105, ntmps105
  go_wp2_with (first | ((with_reducible refine bx_rp w.heap.size r ?_ ?_ ?_); exact rfl; exact rfl; intro W hr hb hz) | ((with_reducible refine ld_rp w.heap.size _ hr ?_ ?_ ?_); exact rfl; exact rfl) | (go_at_call 100; (with_reducible refine (HC.out _).mono ?_); rintro e W ⟨rfl, hbc⟩; replace hr := hr.bl hbc; replace hb := below_bl rfl hb hbc))
  go_ret
  exact ⟨rfl, hb⟩
end Go.Proofs.YtbggkoahofnnjaaGreatDoor
namespace Go.Proofs.YtbggkoahofnnjaaGreatDoor
open Go.RowKit
set_option maxHeartbeats 1000000
theorem rload_ok {w : World} {B b p c : Nat} {f : Nat → Nat} {O : Nat → Prop} (h : RamB w B b p f c O) (hA : AreasAt w) (hG : 2 < B) (x k : Nat) (hx : x < 4294967296) (hk : k = 1 ∨ k = 2 ∨ k = 4) (hal : x % k = 0) (h0 : plB p x k = true) : Calls prog 106 #[.pointer (some ⟨b, 0, none⟩), .int .u32 (x : Nat), .int .i64 (k : Nat)] w fun e w' => e = .returned (.tuple #[.int .u32 (numF f (plM x) k : Nat), .nilIface]) ∧ ∃ O', RamB w' B b p f c O' ∧ Went B O O' w w' := by
  have HI := hide (fun W hA => rinmem_any x hx W hA)
  have hM := h
  have hW := Went.refl B O w
  have hB := h.base
  have hl := plM_lt hx
  have hka := plM_al x k (by omega) hal
  have hin := plB_in h0 (by omega)
  clear h h0
  have HL : Hid (∀ W O1, RamB W B b p f c O1 → Calls prog 121 #[.pointer (some ⟨b, 0, none⟩), .int .u32 (plM x : Nat), .int .i64 (k : Nat)] W fun e w' => e = .returned (.tuple #[.int .u32 (numF f (plM x) k : Nat), .nilIface]) ∧ ∃ O', RamB w' B b p f c O' ∧ Went B O1 O' W w') := hide (fun W O1 hM => load_b hM (plM x) k hl hk hka hin)
  generalize numF f (plM x) k = v at HL ⊢
  clear hka hin hl
  go_enter func106, ntmps106
  go_wp2_with (first | (go_at_call 113; (with_reducible refine (HI.out _ hA).mono ?_); rintro e W ⟨rfl, hbc⟩; replace hM := hM.bl hbc; replace hW := hW.bl hbc hB; replace hA := hA.bl hbc; replace hB := Nat.le_trans hB hbc.size) | (go_at_call 121; (with_reducible refine (HL.out _ _ hM).mono ?_); rintro e W2 ⟨rfl, O2, hM2, hW2⟩; replace hW := hW.trans hW2; replace hM := hM2))
  go_ret2
  exact ⟨rfl, _, hM, hW⟩
theorem rload_no {w : World} {B b p c : Nat} {f : Nat → Nat} {O : Nat → Prop} (h : RamB w B b p f c O) (hA : AreasAt w) (hG : 2 < B) (x k : Nat) (hx : x < 4294967296) (hk : k = 1 ∨ k = 2 ∨ k = 4) (hal : x % k = 0) (h0 : plB p x k = false) : Calls prog 106 #[.pointer (some ⟨b, 0, none⟩), .int .u32 (x : Nat), .int .i64 (k : Nat)] w fun e w' => e = .returned (.tuple #[.int .u32 0, .iface 82 (.int .i64 22)]) ∧ ∃ O', RamB w' B b p f c O' ∧ Went B O O' w w' := by
  have HI := hide (fun W hA => rinmem_any x hx W hA)
  have hM := h
  have hW := Went.refl B O w
  have hB := h.base
  have hl := plM_lt hx
  have hka := plM_al x k (by omega) hal
  have hin := plB_out h0
  clear h h0
  have HL : Hid (∀ W O1, RamB W B b p f c O1 → Calls prog 121 #[.pointer (some ⟨b, 0, none⟩), .int .u32 (plM x : Nat), .int .i64 (k : Nat)] W fun e w' => (∃ z : Int, e = .returned (.tuple #[.int .u32 0, .iface 82 (.int .i64 z)])) ∧ w' = W) := hide (fun W O1 hM => load_bad_b hM (plM x) k hl (.inl hin) hk)
  clear hka hin hl
  go_enter func106, ntmps106
  go_wp2_with (first | (go_at_call 113; (with_reducible refine (HI.out _ hA).mono ?_); rintro e W ⟨rfl, hbc⟩; replace hM := hM.bl hbc; replace hW := hW.bl hbc hB; replace hA := hA.bl hbc; replace hB := Nat.le_trans hB hbc.size) | (go_at_call 121; (with_reducible refine (HL.out _ _ hM).mono ?_); rintro e W2 ⟨⟨z, rfl⟩, rfl⟩))
  go_ret2
  exact ⟨rfl, _, hM, hW⟩
theorem rstore_yes {w : World} {B b p c : Nat} {f : Nat → Nat} {O : Nat → Prop} (h : RamB w B b p f c O) (hA : AreasAt w) (hG : 2 < B) (x k : Nat) (hx : x < 4294967296) (hk : k = 1 ∨ k = 2 ∨ k = 4) (hal : x % k = 0) (h0 : plB p x k = true) (v : Nat) (hv : v < 4294967296) (hc : c ≤ 1000000000) : Calls prog 116 #[.pointer (some ⟨b, 0, none⟩), .int .u32 (x : Nat), .int .i64 (k : Nat), .int .u32 (v : Nat)] w fun e w' => e = .returned .nilIface ∧ ∃ O', RamB w' B b p (wroteF f (plM x) (numB v k)) (c + 1) O' ∧ Went B O O' w w' := by
  have HI := hide (fun W hA => rinmem_any x hx W hA)
  have hM := h
  have hW := Went.refl B O w
  have hB := h.base
  have hl := plM_lt hx
  have hka := plM_al x k (by omega) hal
  have hin := plB_in h0 (by omega)
  clear h h0
  have HL : Hid (∀ W O1, RamB W B b p f c O1 → Calls prog 35 #[.pointer (some ⟨b, 0, none⟩), .int .u32 (plM x : Nat), .int .i64 (k : Nat), .int .u32 (v : Nat)] W fun e w' => e = .returned .nilIface ∧ ∃ O', RamB w' B b p (wroteF f (plM x) (numB v k)) (c + 1) O' ∧ Went B O1 O' W w') := hide (fun W O1 hM => store_b hM (plM x) k hl hk hka hin v hv hc)
  clear hka hin hl
  go_enter func116, ntmps116
  go_wp2_with (first | (go_at_call 113; (with_reducible refine (HI.out _ hA).mono ?_); rintro e W ⟨rfl, hbc⟩; replace hM := hM.bl hbc; replace hW := hW.bl hbc hB; replace hA := hA.bl hbc; replace hB := Nat.le_trans hB hbc.size) | (go_at_call 35; (with_reducible refine (HL.out _ _ hM).mono ?_); rintro e W2 ⟨rfl, O2, hM2, hW2⟩; replace hW := hW.trans hW2))
  go_ret
  exact ⟨rfl, _, hM2, hW⟩
theorem rstore_no {w : World} {B b p c : Nat} {f : Nat → Nat} {O : Nat → Prop} (h : RamB w B b p f c O) (hA : AreasAt w) (hG : 2 < B) (x k : Nat) (hx : x < 4294967296) (hk : k = 1 ∨ k = 2 ∨ k = 4) (hal : x % k = 0) (h0 : plB p x k = false) (v : Nat) (hv : v < 4294967296) : Calls prog 116 #[.pointer (some ⟨b, 0, none⟩), .int .u32 (x : Nat), .int .i64 (k : Nat), .int .u32 (v : Nat)] w fun e w' => e = .returned (.iface 82 (.int .i64 22)) ∧ ∃ O', RamB w' B b p f c O' ∧ Went B O O' w w' := by
  have HI := hide (fun W hA => rinmem_any x hx W hA)
  have hM := h
  have hW := Went.refl B O w
  have hB := h.base
  have hl := plM_lt hx
  have hka := plM_al x k (by omega) hal
  have hin := plB_out h0
  clear h h0
  have HL : Hid (∀ W O1, RamB W B b p f c O1 → Calls prog 35 #[.pointer (some ⟨b, 0, none⟩), .int .u32 (plM x : Nat), .int .i64 (k : Nat), .int .u32 (v : Nat)] W fun e w' => (∃ z : Int, e = .returned (.iface 82 (.int .i64 z))) ∧ w' = W) := hide (fun W O1 hM => store_bad_b hM (plM x) k _ hl (Or.inl hin) hk)
  clear hka hin hl
  go_enter func116, ntmps116
  go_wp2_with (first | (go_at_call 113; (with_reducible refine (HI.out _ hA).mono ?_); rintro e W ⟨rfl, hbc⟩; replace hM := hM.bl hbc; replace hW := hW.bl hbc hB; replace hA := hA.bl hbc; replace hB := Nat.le_trans hB hbc.size) | (go_at_call 35; (with_reducible refine (HL.out _ _ hM).mono ?_); rintro e W2 ⟨⟨z, rfl⟩, rfl⟩))
  go_ret
  exact ⟨rfl, _, hM, hW⟩
end Go.Proofs.YtbggkoahofnnjaaGreatDoor
