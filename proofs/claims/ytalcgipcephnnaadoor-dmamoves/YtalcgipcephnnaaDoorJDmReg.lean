/-
  What dma's inMemory, checkAccess, Read and Write answer.
-/
import Derived.Test.YtalcgipcephnnaaDoorJDmCheck
import Derived.Test.YtalcgipcephnnaaDoorJBuFind
namespace Go.Proofs.YtalcgipcephnnaaDoor
open Go.RowKit
set_option linter.unusedVariables false
set_option linter.unusedSimpArgs false

attribute [local go_sem] E.at0 E.at1 E.at2 E.at3 E.at4 E.at5 E.at6 E.at7 E.at8 E.at9 E.at10
theorem base4 (w : World) (hA : AreasAt w) : Calls Tryd.prog 51 #[.int .i64 4, .int .u32 0] w fun e w' => e = .returned (.tuple #[.int .u32 268500992, .int .u32 256]) ∧ Below w.heap.size w w' := base_any 4 0 (by decide) w hA
theorem base7 (w : World) (hA : AreasAt w) : Calls Tryd.prog 51 #[.int .i64 7, .int .u32 0] w fun e w' => e = .returned (.tuple #[.int .u32 2147483648, .int .u32 0]) ∧ Below w.heap.size w w' := base_any 7 0 (by decide) w hA
/-- A place of the bus, as memory knows it. -/
def inM (x : Nat) : Nat := if 2147483648 ≤ x then x - 2147483648 else x + 2147483648
theorem inM_lt {x : Nat} (h : x < 4294967296) : inM x < 4294967296 := by unfold inM; split <;> omega
theorem inM_wrap (x : Nat) (h : x < 4294967296) : ((x : Int) - 2147483648) % 4294967296 = (inM x : Int) := by
  unfold inM; split <;> omega
set_option maxHeartbeats 1000000 in
theorem inmem_any (x : Nat) (hx : x < 4294967296) (w : World) (hA : AreasAt w) : Calls Tryd.prog 75 #[.int .u32 (x : Nat)] w fun e w' => e = .returned (.int .u32 (inM x : Nat)) ∧ Below w.heap.size w w' := by
  have HB := hide (base7 w hA)
  have HW := hide (inM_wrap x hx)
  clear hA hx
  go_enter Tryd.func75, Tryd.ntmps75
  go_wp2_with (first | (go_at_call 51; refine HB.out.mono ?_; rintro e W ⟨rfl, hb⟩))
  go_ret
  exact ⟨by rw [← HW.out]; rfl, hb⟩
set_option maxHeartbeats 1000000 in
theorem acc_no (s : E) (p : Nat) (hp : p < 4294967296) (hm : mayE s = false) (w : World) (hA : AreasAt w) :
    Calls Tryd.prog 25 #[.agg s.cells, .int .u32 (p : Nat)] w fun e w' => e = .returned (errP (accE s p)) ∧ Below w.heap.size w w' := by
  have HB := hide base4
  have HA := hide hA
  have HC := hide (fun w => echeck_any s w)
  rw [hm] at HC
  have HV : accE s p = 1 := by unfold accE; rw [hm]; rfl
  rw [HV, show errP 1 = .iface 69 (.int .i64 1) from rfl]
  clear HV hm hA
  rw [show errP (chkE false) = .iface 69 (.int .i64 1) from rfl] at HC
  go_enter Tryd.func25, Tryd.ntmps25
  go_wp2_with (first | ((with_reducible refine bx_ep w.heap.size s ?_ ?_ ?_); exact rfl; exact rfl; intro W hr hb hz) | ((with_reducible refine ld_ep w.heap.size _ hr ?_ ?_ ?_); exact rfl; exact rfl) | (go_at_call 14; (with_reducible refine (HC.out _).mono ?_); rintro e W ⟨rfl, hbc⟩; replace hr := hr.bl hbc; replace hb := below_bl rfl hb hbc) | (go_at_call 51; (with_reducible refine (HB.out _ (HA.out.bl hb)).mono ?_); rintro e W ⟨rfl, hbc⟩; replace hr := hr.bl hbc; replace hb := below_bl rfl hb hbc))
  go_ret
  exact ⟨rfl, hb⟩

set_option maxHeartbeats 1000000 in
theorem acc_far (s : E) (p : Nat) (hp : p < 4294967296) (hm : mayE s = true) (h0 : 256 ≤ p) (w : World) (hA : AreasAt w) :
    Calls Tryd.prog 25 #[.agg s.cells, .int .u32 (p : Nat)] w fun e w' => e = .returned (errP (accE s p)) ∧ Below w.heap.size w w' := by
  have HB := hide base4
  have HA := hide hA
  have HC := hide (fun w => echeck_any s w)
  rw [hm] at HC
  have HV : accE s p = 20 := by unfold accE; rw [hm, if_pos rfl, if_pos (Or.inl h0)]
  have t0 : (256 : Int) ≤ (p : Int) := by omega
  rw [HV, show errP 20 = .iface 69 (.int .i64 20) from rfl]
  clear HV hm hA
  rw [show errP (chkE true) = .nilIface from rfl] at HC
  go_enter Tryd.func25, Tryd.ntmps25
  go_wp2_with (first | ((with_reducible refine bx_ep w.heap.size s ?_ ?_ ?_); exact rfl; exact rfl; intro W hr hb hz) | ((with_reducible refine ld_ep w.heap.size _ hr ?_ ?_ ?_); exact rfl; exact rfl) | (go_at_call 14; (with_reducible refine (HC.out _).mono ?_); rintro e W ⟨rfl, hbc⟩; replace hr := hr.bl hbc; replace hb := below_bl rfl hb hbc) | (go_at_call 51; (with_reducible refine (HB.out _ (HA.out.bl hb)).mono ?_); rintro e W ⟨rfl, hbc⟩; replace hr := hr.bl hbc; replace hb := below_bl rfl hb hbc))
  go_ret
  exact ⟨rfl, hb⟩

set_option maxHeartbeats 1000000 in
theorem acc_odd (s : E) (p : Nat) (hp : p < 4294967296) (hm : mayE s = true) (h0 : p < 256) (h1 : p % 4 ≠ 0) (w : World) (hA : AreasAt w) :
    Calls Tryd.prog 25 #[.agg s.cells, .int .u32 (p : Nat)] w fun e w' => e = .returned (errP (accE s p)) ∧ Below w.heap.size w w' := by
  have HB := hide base4
  have HA := hide hA
  have HC := hide (fun w => echeck_any s w)
  rw [hm] at HC
  have HV : accE s p = 20 := by unfold accE; rw [hm, if_pos rfl, if_pos (Or.inr h1)]
  have t0 : decide ((256 : Int) ≤ (p : Int)) = false := by simp; omega
  have t0n : decide (256 ≤ p) = false := by simp; omega
  have t1 : (((p % 4 : Nat) : Int) == 0) = false := (castq (p % 4) 0).trans (by simp [h1])
  have t1n : (((p : Int) % 4) == 0) = false := by simp; omega
  rw [HV, show errP 20 = .iface 69 (.int .i64 20) from rfl]
  clear HV hm hA
  rw [show errP (chkE true) = .nilIface from rfl] at HC
  go_enter Tryd.func25, Tryd.ntmps25
  go_wp2_with (first | ((with_reducible refine bx_ep w.heap.size s ?_ ?_ ?_); exact rfl; exact rfl; intro W hr hb hz) | ((with_reducible refine ld_ep w.heap.size _ hr ?_ ?_ ?_); exact rfl; exact rfl) | (go_at_call 14; (with_reducible refine (HC.out _).mono ?_); rintro e W ⟨rfl, hbc⟩; replace hr := hr.bl hbc; replace hb := below_bl rfl hb hbc) | (go_at_call 51; (with_reducible refine (HB.out _ (HA.out.bl hb)).mono ?_); rintro e W ⟨rfl, hbc⟩; replace hr := hr.bl hbc; replace hb := below_bl rfl hb hbc))
  go_ret
  exact ⟨rfl, hb⟩

set_option maxHeartbeats 1000000 in
theorem acc_ok (s : E) (p : Nat) (hp : p < 4294967296) (hm : mayE s = true) (h0 : p < 256) (h1 : p % 4 = 0) (w : World) (hA : AreasAt w) :
    Calls Tryd.prog 25 #[.agg s.cells, .int .u32 (p : Nat)] w fun e w' => e = .returned (errP (accE s p)) ∧ Below w.heap.size w w' := by
  have HB := hide base4
  have HA := hide hA
  have HC := hide (fun w => echeck_any s w)
  rw [hm] at HC
  have HV : accE s p = 0 := by unfold accE; rw [hm, if_pos rfl, if_neg (by omega)]
  have t0 : decide ((256 : Int) ≤ (p : Int)) = false := by simp; omega
  have t0n : decide (256 ≤ p) = false := by simp; omega
  have t1n : (((p : Int) % 4) == 0) = true := by simp; omega
  rw [HV, show errP 0 = .nilIface from rfl]
  clear HV hm hA
  rw [show errP (chkE true) = .nilIface from rfl] at HC
  go_enter Tryd.func25, Tryd.ntmps25
  go_wp2_with (first | ((with_reducible refine bx_ep w.heap.size s ?_ ?_ ?_); exact rfl; exact rfl; intro W hr hb hz) | ((with_reducible refine ld_ep w.heap.size _ hr ?_ ?_ ?_); exact rfl; exact rfl) | (go_at_call 14; (with_reducible refine (HC.out _).mono ?_); rintro e W ⟨rfl, hbc⟩; replace hr := hr.bl hbc; replace hb := below_bl rfl hb hbc) | (go_at_call 51; (with_reducible refine (HB.out _ (HA.out.bl hb)).mono ?_); rintro e W ⟨rfl, hbc⟩; replace hr := hr.bl hbc; replace hb := below_bl rfl hb hbc))
  go_ret
  exact ⟨rfl, hb⟩

theorem acc_any (s : E) (p : Nat) (hp : p < 4294967296) (w : World) (hA : AreasAt w) :
    Calls Tryd.prog 25 #[.agg s.cells, .int .u32 (p : Nat)] w fun e w' => e = .returned (errP (accE s p)) ∧ Below w.heap.size w w' := by
  cases hm : mayE s with
  | false => exact acc_no s p hp hm w hA
  | true =>
    by_cases h0 : 256 ≤ p
    · exact acc_far s p hp hm h0 w hA
    · by_cases h1 : p % 4 = 0
      · exact acc_ok s p hp hm (by omega) h1 w hA
      · exact acc_odd s p hp hm (by omega) h1 w hA
set_option maxHeartbeats 1000000 in
theorem read_bad (s : E) (p : Nat) (hp : p < 4294967296) (hz : accE s p ≠ 0) (w : World) (hA : AreasAt w) :
    Calls Tryd.prog 9 #[.agg s.cells, .int .u32 (p : Nat)] w fun e w' => e = .returned (.tuple #[.int .u32 (readE s p : Nat), errP (accE s p)]) ∧ Below w.heap.size w w' := by
  have HC := hide (fun w hA => acc_any s p hp w hA)
  have HT := hide (fun b w => truth_any b w)
  have HA := hide hA
  obtain ⟨n, hn⟩ : ∃ n, accE s p = n := ⟨_, rfl⟩
  have HV : readE s p = 0 := by unfold readE; rw [if_neg hz]
  rw [HV]
  have HE : errP (accE s p) = .iface 69 (.int .i64 (n : Int)) := by unfold errP; rw [if_neg hz, hn]
  rw [HE] at HC ⊢
  clear HE hn hz HV hA
  go_enter Tryd.func9, Tryd.ntmps9
  go_wp2_with (first | ((with_reducible refine bx_ep w.heap.size s ?_ ?_ ?_); exact rfl; exact rfl; intro W hr hb hz; have fx := hr.cell) | ((with_reducible refine ld_ep w.heap.size _ hr ?_ ?_ ?_); exact rfl; exact rfl) | (go_at_call 25; (with_reducible refine (HC.out _ (HA.out.bl hb)).mono ?_); rintro e W ⟨rfl, hbc⟩; replace hr := hr.bl hbc; replace fx := hr.cell; replace hb := below_bl rfl hb hbc))
  go_ret2
  exact ⟨rfl, hb⟩

set_option maxHeartbeats 1000000 in
theorem read_r0 (s : E) (p : Nat) (hp : p < 4294967296) (hz : accE s p = 0) (hk : p = 0) (w : World) (hA : AreasAt w) :
    Calls Tryd.prog 9 #[.agg s.cells, .int .u32 (p : Nat)] w fun e w' => e = .returned (.tuple #[.int .u32 (readE s p : Nat), errP (accE s p)]) ∧ Below w.heap.size w w' := by
  have HC := hide (fun w hA => acc_any s p hp w hA)
  have HT := hide (fun b w => truth_any b w)
  have HA := hide hA
  have HE : errP (accE s p) = .nilIface := by rw [hz]; rfl
  rw [HE] at HC ⊢
  have HV : readE s p = regE s p := by unfold readE; rw [if_pos hz]
  rw [HV]
  clear HE HV hz hA
  have HR : regE s p = b2n (s.cd == 1) := by unfold regE; rw [if_pos hk]
  rw [HR]
  clear HR
  have t0 : ((p : Int) == 0) = true := (castq p 0).trans (by simp [hk])
  have t9 : ((s.cd : Int) == 1) = (s.cd == 1) := castq s.cd 1
  clear hk
  go_enter Tryd.func9, Tryd.ntmps9
  go_wp2_with (first | ((with_reducible refine bx_ep w.heap.size s ?_ ?_ ?_); exact rfl; exact rfl; intro W hr hb hz; have fx := hr.cell) | ((with_reducible refine ld_ep w.heap.size _ hr ?_ ?_ ?_); exact rfl; exact rfl) | (go_at_call 25; (with_reducible refine (HC.out _ (HA.out.bl hb)).mono ?_); rintro e W ⟨rfl, hbc⟩; replace hr := hr.bl hbc; replace fx := hr.cell; replace hb := below_bl rfl hb hbc) | (go_at_call 26; (with_reducible refine (HT.out _ _).mono ?_); rintro e W2 ⟨rfl, rfl⟩))
  go_ret2
  exact ⟨rfl, hb⟩

set_option maxHeartbeats 1000000 in
theorem read_r1 (s : E) (p : Nat) (hp : p < 4294967296) (hz : accE s p = 0) (hk : p = 4) (w : World) (hA : AreasAt w) :
    Calls Tryd.prog 9 #[.agg s.cells, .int .u32 (p : Nat)] w fun e w' => e = .returned (.tuple #[.int .u32 (readE s p : Nat), errP (accE s p)]) ∧ Below w.heap.size w w' := by
  have HC := hide (fun w hA => acc_any s p hp w hA)
  have HT := hide (fun b w => truth_any b w)
  have HA := hide hA
  have HE : errP (accE s p) = .nilIface := by rw [hz]; rfl
  rw [HE] at HC ⊢
  have HV : readE s p = regE s p := by unfold readE; rw [if_pos hz]
  rw [HV]
  clear HE HV hz hA
  have HR : regE s p = s.cd := by unfold regE; rw [if_neg (by omega), if_pos hk]
  rw [HR]
  clear HR
  have t0 : ((p : Int) == 0) = false := (castq p 0).trans (by simp; omega)
  have t1 : ((p : Int) == 4) = true := (castq p 4).trans (by simp [hk])
  clear hk
  go_enter Tryd.func9, Tryd.ntmps9
  go_wp2_with (first | ((with_reducible refine bx_ep w.heap.size s ?_ ?_ ?_); exact rfl; exact rfl; intro W hr hb hz; have fx := hr.cell) | ((with_reducible refine ld_ep w.heap.size _ hr ?_ ?_ ?_); exact rfl; exact rfl) | (go_at_call 25; (with_reducible refine (HC.out _ (HA.out.bl hb)).mono ?_); rintro e W ⟨rfl, hbc⟩; replace hr := hr.bl hbc; replace fx := hr.cell; replace hb := below_bl rfl hb hbc) | (go_at_call 26; (with_reducible refine (HT.out _ _).mono ?_); rintro e W2 ⟨rfl, rfl⟩))
  go_ret2
  exact ⟨rfl, hb⟩

set_option maxHeartbeats 1000000 in
theorem read_r2 (s : E) (p : Nat) (hp : p < 4294967296) (hz : accE s p = 0) (hk : p = 8) (w : World) (hA : AreasAt w) :
    Calls Tryd.prog 9 #[.agg s.cells, .int .u32 (p : Nat)] w fun e w' => e = .returned (.tuple #[.int .u32 (readE s p : Nat), errP (accE s p)]) ∧ Below w.heap.size w w' := by
  have HC := hide (fun w hA => acc_any s p hp w hA)
  have HT := hide (fun b w => truth_any b w)
  have HA := hide hA
  have HE : errP (accE s p) = .nilIface := by rw [hz]; rfl
  rw [HE] at HC ⊢
  have HV : readE s p = regE s p := by unfold readE; rw [if_pos hz]
  rw [HV]
  clear HE HV hz hA
  have HR : regE s p = s.hd := by unfold regE; rw [if_neg (by omega), if_neg (by omega), if_pos hk]
  rw [HR]
  clear HR
  have t0 : ((p : Int) == 0) = false := (castq p 0).trans (by simp; omega)
  have t1 : ((p : Int) == 4) = false := (castq p 4).trans (by simp; omega)
  have t2 : ((p : Int) == 8) = true := (castq p 8).trans (by simp [hk])
  clear hk
  go_enter Tryd.func9, Tryd.ntmps9
  go_wp2_with (first | ((with_reducible refine bx_ep w.heap.size s ?_ ?_ ?_); exact rfl; exact rfl; intro W hr hb hz; have fx := hr.cell) | ((with_reducible refine ld_ep w.heap.size _ hr ?_ ?_ ?_); exact rfl; exact rfl) | (go_at_call 25; (with_reducible refine (HC.out _ (HA.out.bl hb)).mono ?_); rintro e W ⟨rfl, hbc⟩; replace hr := hr.bl hbc; replace fx := hr.cell; replace hb := below_bl rfl hb hbc) | (go_at_call 26; (with_reducible refine (HT.out _ _).mono ?_); rintro e W2 ⟨rfl, rfl⟩))
  go_ret2
  exact ⟨rfl, hb⟩

set_option maxHeartbeats 1000000 in
theorem read_r3 (s : E) (p : Nat) (hp : p < 4294967296) (hz : accE s p = 0) (hk : p = 12) (w : World) (hA : AreasAt w) :
    Calls Tryd.prog 9 #[.agg s.cells, .int .u32 (p : Nat)] w fun e w' => e = .returned (.tuple #[.int .u32 (readE s p : Nat), errP (accE s p)]) ∧ Below w.heap.size w w' := by
  have HC := hide (fun w hA => acc_any s p hp w hA)
  have HT := hide (fun b w => truth_any b w)
  have HA := hide hA
  have HE : errP (accE s p) = .nilIface := by rw [hz]; rfl
  rw [HE] at HC ⊢
  have HV : readE s p = regE s p := by unfold readE; rw [if_pos hz]
  rw [HV]
  clear HE HV hz hA
  have HR : regE s p = s.mv := by unfold regE; rw [if_neg (by omega), if_neg (by omega), if_neg (by omega), if_pos hk]
  rw [HR]
  clear HR
  have t0 : ((p : Int) == 0) = false := (castq p 0).trans (by simp; omega)
  have t1 : ((p : Int) == 4) = false := (castq p 4).trans (by simp; omega)
  have t2 : ((p : Int) == 8) = false := (castq p 8).trans (by simp; omega)
  have t3 : ((p : Int) == 12) = true := (castq p 12).trans (by simp [hk])
  clear hk
  go_enter Tryd.func9, Tryd.ntmps9
  go_wp2_with (first | ((with_reducible refine bx_ep w.heap.size s ?_ ?_ ?_); exact rfl; exact rfl; intro W hr hb hz; have fx := hr.cell) | ((with_reducible refine ld_ep w.heap.size _ hr ?_ ?_ ?_); exact rfl; exact rfl) | (go_at_call 25; (with_reducible refine (HC.out _ (HA.out.bl hb)).mono ?_); rintro e W ⟨rfl, hbc⟩; replace hr := hr.bl hbc; replace fx := hr.cell; replace hb := below_bl rfl hb hbc) | (go_at_call 26; (with_reducible refine (HT.out _ _).mono ?_); rintro e W2 ⟨rfl, rfl⟩))
  go_ret2
  exact ⟨rfl, hb⟩

set_option maxHeartbeats 1000000 in
theorem read_r4 (s : E) (p : Nat) (hp : p < 4294967296) (hz : accE s p = 0) (hk : p = 16) (w : World) (hA : AreasAt w) :
    Calls Tryd.prog 9 #[.agg s.cells, .int .u32 (p : Nat)] w fun e w' => e = .returned (.tuple #[.int .u32 (readE s p : Nat), errP (accE s p)]) ∧ Below w.heap.size w w' := by
  have HC := hide (fun w hA => acc_any s p hp w hA)
  have HT := hide (fun b w => truth_any b w)
  have HA := hide hA
  have HE : errP (accE s p) = .nilIface := by rw [hz]; rfl
  rw [HE] at HC ⊢
  have HV : readE s p = regE s p := by unfold readE; rw [if_pos hz]
  rw [HV]
  clear HE HV hz hA
  have HR : regE s p = b2n s.ak := by unfold regE; rw [if_neg (by omega), if_neg (by omega), if_neg (by omega), if_neg (by omega), if_pos hk]
  rw [HR]
  clear HR
  have t0 : ((p : Int) == 0) = false := (castq p 0).trans (by simp; omega)
  have t1 : ((p : Int) == 4) = false := (castq p 4).trans (by simp; omega)
  have t2 : ((p : Int) == 8) = false := (castq p 8).trans (by simp; omega)
  have t3 : ((p : Int) == 12) = false := (castq p 12).trans (by simp; omega)
  have t4 : ((p : Int) == 16) = true := (castq p 16).trans (by simp [hk])
  clear hk
  go_enter Tryd.func9, Tryd.ntmps9
  go_wp2_with (first | ((with_reducible refine bx_ep w.heap.size s ?_ ?_ ?_); exact rfl; exact rfl; intro W hr hb hz; have fx := hr.cell) | ((with_reducible refine ld_ep w.heap.size _ hr ?_ ?_ ?_); exact rfl; exact rfl) | (go_at_call 25; (with_reducible refine (HC.out _ (HA.out.bl hb)).mono ?_); rintro e W ⟨rfl, hbc⟩; replace hr := hr.bl hbc; replace fx := hr.cell; replace hb := below_bl rfl hb hbc) | (go_at_call 26; (with_reducible refine (HT.out _ _).mono ?_); rintro e W2 ⟨rfl, rfl⟩))
  go_ret2
  exact ⟨rfl, hb⟩

set_option maxHeartbeats 1000000 in
theorem read_r5 (s : E) (p : Nat) (hp : p < 4294967296) (hz : accE s p = 0) (hk : p ≠ 0 ∧ p ≠ 4 ∧ p ≠ 8 ∧ p ≠ 12 ∧ p ≠ 16) (w : World) (hA : AreasAt w) :
    Calls Tryd.prog 9 #[.agg s.cells, .int .u32 (p : Nat)] w fun e w' => e = .returned (.tuple #[.int .u32 (readE s p : Nat), errP (accE s p)]) ∧ Below w.heap.size w w' := by
  have HC := hide (fun w hA => acc_any s p hp w hA)
  have HT := hide (fun b w => truth_any b w)
  have HA := hide hA
  have HE : errP (accE s p) = .nilIface := by rw [hz]; rfl
  rw [HE] at HC ⊢
  have HV : readE s p = regE s p := by unfold readE; rw [if_pos hz]
  rw [HV]
  clear HE HV hz hA
  have HR : regE s p = 0 := by unfold regE; rw [if_neg (by omega), if_neg (by omega), if_neg (by omega), if_neg (by omega), if_neg (by omega)]
  rw [HR]
  clear HR
  have t0 : ((p : Int) == 0) = false := (castq p 0).trans (by simp; omega)
  have t1 : ((p : Int) == 4) = false := (castq p 4).trans (by simp; omega)
  have t2 : ((p : Int) == 8) = false := (castq p 8).trans (by simp; omega)
  have t3 : ((p : Int) == 12) = false := (castq p 12).trans (by simp; omega)
  have t4 : ((p : Int) == 16) = false := (castq p 16).trans (by simp; omega)
  clear hk
  go_enter Tryd.func9, Tryd.ntmps9
  go_wp2_with (first | ((with_reducible refine bx_ep w.heap.size s ?_ ?_ ?_); exact rfl; exact rfl; intro W hr hb hz; have fx := hr.cell) | ((with_reducible refine ld_ep w.heap.size _ hr ?_ ?_ ?_); exact rfl; exact rfl) | (go_at_call 25; (with_reducible refine (HC.out _ (HA.out.bl hb)).mono ?_); rintro e W ⟨rfl, hbc⟩; replace hr := hr.bl hbc; replace fx := hr.cell; replace hb := below_bl rfl hb hbc) | (go_at_call 26; (with_reducible refine (HT.out _ _).mono ?_); rintro e W2 ⟨rfl, rfl⟩))
  go_ret2
  exact ⟨rfl, hb⟩

theorem eread_any (s : E) (p : Nat) (hp : p < 4294967296) (w : World) (hA : AreasAt w) :
    Calls Tryd.prog 9 #[.agg s.cells, .int .u32 (p : Nat)] w fun e w' => e = .returned (.tuple #[.int .u32 (readE s p : Nat), errP (accE s p)]) ∧ Below w.heap.size w w' := by
  by_cases hz : accE s p = 0
  · by_cases h0 : p = 0
    · exact read_r0 s p hp hz h0 w hA
    by_cases h1 : p = 4
    · exact read_r1 s p hp hz h1 w hA
    by_cases h2 : p = 8
    · exact read_r2 s p hp hz h2 w hA
    by_cases h3 : p = 12
    · exact read_r3 s p hp hz h3 w hA
    by_cases h4 : p = 16
    · exact read_r4 s p hp hz h4 w hA
    exact read_r5 s p hp hz ⟨h0, h1, h2, h3, h4⟩ w hA
  · exact read_bad s p hp hz w hA
set_option maxHeartbeats 1000000 in
theorem write_bad (s : E) (p v : Nat) (hp : p < 4294967296) (hz : accE s p ≠ 0) (w : World) (hA : AreasAt w) :
    Calls Tryd.prog 11 #[.agg s.cells, .int .u32 (p : Nat), .int .u32 (v : Nat)] w fun e w' => e = .returned (.tuple #[.agg (writeE s p v).cells, errP (accE s p)]) ∧ Below w.heap.size w w' := by
  have HC := hide (fun w hA => acc_any s p hp w hA)
  have HT := hide (fun w => sos_any s v w)
  have HA := hide hA
  obtain ⟨n, hn⟩ : ∃ n, accE s p = n := ⟨_, rfl⟩
  have HV : writeE s p v = zeroE := by unfold writeE; rw [if_neg hz]
  rw [HV]
  have HE : errP (accE s p) = .iface 69 (.int .i64 (n : Int)) := by unfold errP; rw [if_neg hz, hn]
  rw [HE] at HC ⊢
  clear HE hn hz HV hA
  go_enter Tryd.func11, Tryd.ntmps11
  go_wp2_with (first | ((with_reducible refine bx_ep w.heap.size s ?_ ?_ ?_); exact rfl; exact rfl; intro W hr hb hz; have fx := hr.cell) | ((with_reducible refine al_ep (w.heap.size + 1) ?_ ?_); exact hz.out; intro W hq hb' hz'; replace hr := hr.bl (hz.out ▸ hb'); replace fx := hr.cell; replace hb := hb.trans (hb'.mono (by omega)); replace hz := hz') | ((with_reducible refine ld_ep w.heap.size _ hr ?_ ?_ ?_); exact rfl; exact rfl) | (go_at_call 25; (with_reducible refine (HC.out _ (HA.out.bl hb)).mono ?_); rintro e W ⟨rfl, hbc⟩; replace hr := hr.bl hbc; replace hq := hq.bl hbc; replace fx := hr.cell; replace hb := below_bl rfl hb hbc) | ((with_reducible refine st_ep (w.heap.size + 1) _ zeroE hq ?_ ?_ ?_); exact rfl; exact rfl; intro W hnew ho; replace hr := hr.only ho (by omega); replace hq := hnew; replace hb := ho.bel _ _ (by omega) hb))
  refine bodyPost_ret (results_cell_one Tryd.results11 _ _ (w.heap.size + 1) _ _ _ rfl hq Tryd.underlying29 rfl size_ep) rfl ?_
  exact ⟨rfl, hb⟩

set_option maxHeartbeats 1000000 in
theorem write_w0 (s : E) (p v : Nat) (hp : p < 4294967296) (hz : accE s p = 0) (hk : p = 0) (w : World) (hA : AreasAt w) :
    Calls Tryd.prog 11 #[.agg s.cells, .int .u32 (p : Nat), .int .u32 (v : Nat)] w fun e w' => e = .returned (.tuple #[.agg (writeE s p v).cells, errP (accE s p)]) ∧ Below w.heap.size w w' := by
  have HC := hide (fun w hA => acc_any s p hp w hA)
  have HT := hide (fun w => sos_any s v w)
  have HA := hide hA
  have HE : errP (accE s p) = .nilIface := by rw [hz]; rfl
  rw [HE] at HC ⊢
  have HV : writeE s p v = setE s p v := by unfold writeE; rw [if_pos hz]
  rw [HV]
  clear HE HV hz hA
  have HR : setE s p v = goE s v := by unfold setE; rw [if_pos hk]
  rw [HR]
  clear HR
  have u0 : ((p : Int) == 0) = true := (castq p 0).trans (by simp [hk])
  clear hk
  go_enter Tryd.func11, Tryd.ntmps11
  go_wp2_with (first | ((with_reducible refine bx_ep w.heap.size s ?_ ?_ ?_); exact rfl; exact rfl; intro W hr hb hz; have fx := hr.cell) | ((with_reducible refine al_ep (w.heap.size + 1) ?_ ?_); exact hz.out; intro W hq hb' hz'; replace hr := hr.bl (hz.out ▸ hb'); replace fx := hr.cell; replace hb := hb.trans (hb'.mono (by omega)); replace hz := hz') | ((with_reducible refine ld_ep w.heap.size _ hr ?_ ?_ ?_); exact rfl; exact rfl) | (go_at_call 25; (with_reducible refine (HC.out _ (HA.out.bl hb)).mono ?_); rintro e W ⟨rfl, hbc⟩; replace hr := hr.bl hbc; replace hq := hq.bl hbc; replace fx := hr.cell; replace hb := below_bl rfl hb hbc) | (go_at_call 27; (with_reducible refine (HT.out _).mono ?_); rintro e W ⟨rfl, hbc⟩; replace hr := hr.bl hbc; replace hq := hq.bl hbc; replace fx := hr.cell; replace hb := below_bl rfl hb hbc) | ((with_reducible refine st_ep w.heap.size _ (goE s v) hr ?_ ?_ ?_); exact rfl; exact rfl; intro W hnew ho; replace hq := hq.only ho (by omega); replace hr := hnew; replace fx := hr.cell; replace hb := ho.bel _ _ (by omega) hb) | ((with_reducible refine st_ep (w.heap.size + 1) _ (goE s v) hq ?_ ?_ ?_); exact rfl; exact rfl; intro W hnew ho; replace hr := hr.only ho (by omega); replace hq := hnew; replace hb := ho.bel _ _ (by omega) hb))
  refine bodyPost_ret (results_cell_one Tryd.results11 _ _ (w.heap.size + 1) _ _ _ rfl hq Tryd.underlying29 rfl size_ep) rfl ?_
  exact ⟨rfl, hb⟩

set_option maxHeartbeats 1000000 in
theorem write_w1 (s : E) (p v : Nat) (hp : p < 4294967296) (hz : accE s p = 0) (hk : p = 8) (h1 : s.cd ≠ 1) (w : World) (hA : AreasAt w) :
    Calls Tryd.prog 11 #[.agg s.cells, .int .u32 (p : Nat), .int .u32 (v : Nat)] w fun e w' => e = .returned (.tuple #[.agg (writeE s p v).cells, errP (accE s p)]) ∧ Below w.heap.size w w' := by
  have HC := hide (fun w hA => acc_any s p hp w hA)
  have HT := hide (fun w => sos_any s v w)
  have HA := hide hA
  have HE : errP (accE s p) = .nilIface := by rw [hz]; rfl
  rw [HE] at HC ⊢
  have HV : writeE s p v = setE s p v := by unfold writeE; rw [if_pos hz]
  rw [HV]
  clear HE HV hz hA
  have HR : setE s p v = ({ s with hd := v } : E) := by unfold setE; rw [if_neg (by omega), if_pos hk, if_pos h1]
  rw [HR]
  clear HR
  have t1 : ((s.cd : Int) == 1) = false := (castq s.cd 1).trans (by simp [h1])
  have u0 : ((p : Int) == 0) = false := (castq p 0).trans (by simp; omega)
  have u8 : ((p : Int) == 8) = true := (castq p 8).trans (by simp [hk])
  clear hk
  go_enter Tryd.func11, Tryd.ntmps11
  go_wp2_with (first | ((with_reducible refine bx_ep w.heap.size s ?_ ?_ ?_); exact rfl; exact rfl; intro W hr hb hz; have fx := hr.cell) | ((with_reducible refine al_ep (w.heap.size + 1) ?_ ?_); exact hz.out; intro W hq hb' hz'; replace hr := hr.bl (hz.out ▸ hb'); replace fx := hr.cell; replace hb := hb.trans (hb'.mono (by omega)); replace hz := hz') | ((with_reducible refine ld_ep w.heap.size _ hr ?_ ?_ ?_); exact rfl; exact rfl) | (go_at_call 25; (with_reducible refine (HC.out _ (HA.out.bl hb)).mono ?_); rintro e W ⟨rfl, hbc⟩; replace hr := hr.bl hbc; replace hq := hq.bl hbc; replace fx := hr.cell; replace hb := below_bl rfl hb hbc) | (go_at_call 27; (with_reducible refine (HT.out _).mono ?_); rintro e W ⟨rfl, hbc⟩; replace hr := hr.bl hbc; replace hq := hq.bl hbc; replace fx := hr.cell; replace hb := below_bl rfl hb hbc) | ((with_reducible refine st_ehd w.heap.size _ v _ hr ?_ ?_ ?_); exact rfl; exact rfl; intro W hnew ho; replace hq := hq.only ho (by omega); replace hr := hnew; replace hb := ho.bel _ _ (by omega) hb) | ((with_reducible refine st_ep (w.heap.size + 1) _ ({ s with hd := v } : E) hq ?_ ?_ ?_); exact rfl; exact rfl; intro W hnew ho; replace hr := hr.only ho (by omega); replace hq := hnew; replace hb := ho.bel _ _ (by omega) hb))
  refine bodyPost_ret (results_cell_one Tryd.results11 _ _ (w.heap.size + 1) _ _ _ rfl hq Tryd.underlying29 rfl size_ep) rfl ?_
  exact ⟨rfl, hb⟩

set_option maxHeartbeats 1000000 in
theorem write_w2 (s : E) (p v : Nat) (hp : p < 4294967296) (hz : accE s p = 0) (hk : p = 8) (h1 : s.cd = 1) (w : World) (hA : AreasAt w) :
    Calls Tryd.prog 11 #[.agg s.cells, .int .u32 (p : Nat), .int .u32 (v : Nat)] w fun e w' => e = .returned (.tuple #[.agg (writeE s p v).cells, errP (accE s p)]) ∧ Below w.heap.size w w' := by
  have HC := hide (fun w hA => acc_any s p hp w hA)
  have HT := hide (fun w => sos_any s v w)
  have HA := hide hA
  have HE : errP (accE s p) = .nilIface := by rw [hz]; rfl
  rw [HE] at HC ⊢
  have HV : writeE s p v = setE s p v := by unfold writeE; rw [if_pos hz]
  rw [HV]
  clear HE HV hz hA
  have HR : setE s p v = s := by unfold setE; rw [if_neg (by omega), if_pos hk, if_neg (by omega)]
  rw [HR]
  clear HR
  have t1 : ((s.cd : Int) == 1) = true := (castq s.cd 1).trans (by simp [h1])
  have u0 : ((p : Int) == 0) = false := (castq p 0).trans (by simp; omega)
  have u8 : ((p : Int) == 8) = true := (castq p 8).trans (by simp [hk])
  clear hk
  go_enter Tryd.func11, Tryd.ntmps11
  go_wp2_with (first | ((with_reducible refine bx_ep w.heap.size s ?_ ?_ ?_); exact rfl; exact rfl; intro W hr hb hz; have fx := hr.cell) | ((with_reducible refine al_ep (w.heap.size + 1) ?_ ?_); exact hz.out; intro W hq hb' hz'; replace hr := hr.bl (hz.out ▸ hb'); replace fx := hr.cell; replace hb := hb.trans (hb'.mono (by omega)); replace hz := hz') | ((with_reducible refine ld_ep w.heap.size _ hr ?_ ?_ ?_); exact rfl; exact rfl) | (go_at_call 25; (with_reducible refine (HC.out _ (HA.out.bl hb)).mono ?_); rintro e W ⟨rfl, hbc⟩; replace hr := hr.bl hbc; replace hq := hq.bl hbc; replace fx := hr.cell; replace hb := below_bl rfl hb hbc) | (go_at_call 27; (with_reducible refine (HT.out _).mono ?_); rintro e W ⟨rfl, hbc⟩; replace hr := hr.bl hbc; replace hq := hq.bl hbc; replace fx := hr.cell; replace hb := below_bl rfl hb hbc) | ((with_reducible refine st_ep (w.heap.size + 1) _ s hq ?_ ?_ ?_); exact rfl; exact rfl; intro W hnew ho; replace hr := hr.only ho (by omega); replace hq := hnew; replace hb := ho.bel _ _ (by omega) hb))
  refine bodyPost_ret (results_cell_one Tryd.results11 _ _ (w.heap.size + 1) _ _ _ rfl hq Tryd.underlying29 rfl size_ep) rfl ?_
  exact ⟨rfl, hb⟩

set_option maxHeartbeats 1000000 in
theorem write_w3 (s : E) (p v : Nat) (hp : p < 4294967296) (hz : accE s p = 0) (hk : p = 16) (h1 : v = 1) (w : World) (hA : AreasAt w) :
    Calls Tryd.prog 11 #[.agg s.cells, .int .u32 (p : Nat), .int .u32 (v : Nat)] w fun e w' => e = .returned (.tuple #[.agg (writeE s p v).cells, errP (accE s p)]) ∧ Below w.heap.size w w' := by
  have HC := hide (fun w hA => acc_any s p hp w hA)
  have HT := hide (fun w => sos_any s v w)
  have HA := hide hA
  have HE : errP (accE s p) = .nilIface := by rw [hz]; rfl
  rw [HE] at HC ⊢
  have HV : writeE s p v = setE s p v := by unfold writeE; rw [if_pos hz]
  rw [HV]
  clear HE HV hz hA
  have HR : setE s p v = ({ s with ak := false } : E) := by unfold setE; rw [if_neg (by omega), if_neg (by omega), if_pos hk, if_pos h1]
  rw [HR]
  clear HR
  have t1 : ((v : Int) == 1) = true := (castq v 1).trans (by simp [h1])
  clear h1
  have u0 : ((p : Int) == 0) = false := (castq p 0).trans (by simp; omega)
  have u8 : ((p : Int) == 8) = false := (castq p 8).trans (by simp; omega)
  have u16 : ((p : Int) == 16) = true := (castq p 16).trans (by simp [hk])
  clear hk
  go_enter Tryd.func11, Tryd.ntmps11
  go_wp2_with (first | ((with_reducible refine bx_ep w.heap.size s ?_ ?_ ?_); exact rfl; exact rfl; intro W hr hb hz; have fx := hr.cell) | ((with_reducible refine al_ep (w.heap.size + 1) ?_ ?_); exact hz.out; intro W hq hb' hz'; replace hr := hr.bl (hz.out ▸ hb'); replace fx := hr.cell; replace hb := hb.trans (hb'.mono (by omega)); replace hz := hz') | ((with_reducible refine ld_ep w.heap.size _ hr ?_ ?_ ?_); exact rfl; exact rfl) | (go_at_call 25; (with_reducible refine (HC.out _ (HA.out.bl hb)).mono ?_); rintro e W ⟨rfl, hbc⟩; replace hr := hr.bl hbc; replace hq := hq.bl hbc; replace fx := hr.cell; replace hb := below_bl rfl hb hbc) | (go_at_call 27; (with_reducible refine (HT.out _).mono ?_); rintro e W ⟨rfl, hbc⟩; replace hr := hr.bl hbc; replace hq := hq.bl hbc; replace fx := hr.cell; replace hb := below_bl rfl hb hbc) | ((with_reducible refine st_eak w.heap.size _ false _ hr ?_ ?_ ?_); exact rfl; exact rfl; intro W hnew ho; replace hq := hq.only ho (by omega); replace hr := hnew; replace hb := ho.bel _ _ (by omega) hb) | ((with_reducible refine st_ep (w.heap.size + 1) _ ({ s with ak := false } : E) hq ?_ ?_ ?_); exact rfl; exact rfl; intro W hnew ho; replace hr := hr.only ho (by omega); replace hq := hnew; replace hb := ho.bel _ _ (by omega) hb))
  refine bodyPost_ret (results_cell_one Tryd.results11 _ _ (w.heap.size + 1) _ _ _ rfl hq Tryd.underlying29 rfl size_ep) rfl ?_
  exact ⟨rfl, hb⟩

set_option maxHeartbeats 1000000 in
theorem write_w4 (s : E) (p v : Nat) (hp : p < 4294967296) (hz : accE s p = 0) (hk : p = 16) (h1 : v ≠ 1) (w : World) (hA : AreasAt w) :
    Calls Tryd.prog 11 #[.agg s.cells, .int .u32 (p : Nat), .int .u32 (v : Nat)] w fun e w' => e = .returned (.tuple #[.agg (writeE s p v).cells, errP (accE s p)]) ∧ Below w.heap.size w w' := by
  have HC := hide (fun w hA => acc_any s p hp w hA)
  have HT := hide (fun w => sos_any s v w)
  have HA := hide hA
  have HE : errP (accE s p) = .nilIface := by rw [hz]; rfl
  rw [HE] at HC ⊢
  have HV : writeE s p v = setE s p v := by unfold writeE; rw [if_pos hz]
  rw [HV]
  clear HE HV hz hA
  have HR : setE s p v = s := by unfold setE; rw [if_neg (by omega), if_neg (by omega), if_pos hk, if_neg h1]
  rw [HR]
  clear HR
  have t1 : ((v : Int) == 1) = false := (castq v 1).trans (by simp [h1])
  have u0 : ((p : Int) == 0) = false := (castq p 0).trans (by simp; omega)
  have u8 : ((p : Int) == 8) = false := (castq p 8).trans (by simp; omega)
  have u16 : ((p : Int) == 16) = true := (castq p 16).trans (by simp [hk])
  clear hk
  go_enter Tryd.func11, Tryd.ntmps11
  go_wp2_with (first | ((with_reducible refine bx_ep w.heap.size s ?_ ?_ ?_); exact rfl; exact rfl; intro W hr hb hz; have fx := hr.cell) | ((with_reducible refine al_ep (w.heap.size + 1) ?_ ?_); exact hz.out; intro W hq hb' hz'; replace hr := hr.bl (hz.out ▸ hb'); replace fx := hr.cell; replace hb := hb.trans (hb'.mono (by omega)); replace hz := hz') | ((with_reducible refine ld_ep w.heap.size _ hr ?_ ?_ ?_); exact rfl; exact rfl) | (go_at_call 25; (with_reducible refine (HC.out _ (HA.out.bl hb)).mono ?_); rintro e W ⟨rfl, hbc⟩; replace hr := hr.bl hbc; replace hq := hq.bl hbc; replace fx := hr.cell; replace hb := below_bl rfl hb hbc) | (go_at_call 27; (with_reducible refine (HT.out _).mono ?_); rintro e W ⟨rfl, hbc⟩; replace hr := hr.bl hbc; replace hq := hq.bl hbc; replace fx := hr.cell; replace hb := below_bl rfl hb hbc) | ((with_reducible refine st_ep (w.heap.size + 1) _ s hq ?_ ?_ ?_); exact rfl; exact rfl; intro W hnew ho; replace hr := hr.only ho (by omega); replace hq := hnew; replace hb := ho.bel _ _ (by omega) hb))
  refine bodyPost_ret (results_cell_one Tryd.results11 _ _ (w.heap.size + 1) _ _ _ rfl hq Tryd.underlying29 rfl size_ep) rfl ?_
  exact ⟨rfl, hb⟩

set_option maxHeartbeats 1000000 in
theorem write_w5 (s : E) (p v : Nat) (hp : p < 4294967296) (hz : accE s p = 0) (hk : p ≠ 0 ∧ p ≠ 8 ∧ p ≠ 16) (w : World) (hA : AreasAt w) :
    Calls Tryd.prog 11 #[.agg s.cells, .int .u32 (p : Nat), .int .u32 (v : Nat)] w fun e w' => e = .returned (.tuple #[.agg (writeE s p v).cells, errP (accE s p)]) ∧ Below w.heap.size w w' := by
  have HC := hide (fun w hA => acc_any s p hp w hA)
  have HT := hide (fun w => sos_any s v w)
  have HA := hide hA
  have HE : errP (accE s p) = .nilIface := by rw [hz]; rfl
  rw [HE] at HC ⊢
  have HV : writeE s p v = setE s p v := by unfold writeE; rw [if_pos hz]
  rw [HV]
  clear HE HV hz hA
  have HR : setE s p v = s := by unfold setE; rw [if_neg (by omega), if_neg (by omega), if_neg (by omega)]
  rw [HR]
  clear HR
  have t0 : ((p : Int) == 0) = false := (castq p 0).trans (by simp; omega)
  have t1 : ((p : Int) == 8) = false := (castq p 8).trans (by simp; omega)
  have t2 : ((p : Int) == 16) = false := (castq p 16).trans (by simp; omega)
  clear hk
  go_enter Tryd.func11, Tryd.ntmps11
  go_wp2_with (first | ((with_reducible refine bx_ep w.heap.size s ?_ ?_ ?_); exact rfl; exact rfl; intro W hr hb hz; have fx := hr.cell) | ((with_reducible refine al_ep (w.heap.size + 1) ?_ ?_); exact hz.out; intro W hq hb' hz'; replace hr := hr.bl (hz.out ▸ hb'); replace fx := hr.cell; replace hb := hb.trans (hb'.mono (by omega)); replace hz := hz') | ((with_reducible refine ld_ep w.heap.size _ hr ?_ ?_ ?_); exact rfl; exact rfl) | (go_at_call 25; (with_reducible refine (HC.out _ (HA.out.bl hb)).mono ?_); rintro e W ⟨rfl, hbc⟩; replace hr := hr.bl hbc; replace hq := hq.bl hbc; replace fx := hr.cell; replace hb := below_bl rfl hb hbc) | (go_at_call 27; (with_reducible refine (HT.out _).mono ?_); rintro e W ⟨rfl, hbc⟩; replace hr := hr.bl hbc; replace hq := hq.bl hbc; replace fx := hr.cell; replace hb := below_bl rfl hb hbc) | ((with_reducible refine st_ep (w.heap.size + 1) _ s hq ?_ ?_ ?_); exact rfl; exact rfl; intro W hnew ho; replace hr := hr.only ho (by omega); replace hq := hnew; replace hb := ho.bel _ _ (by omega) hb))
  refine bodyPost_ret (results_cell_one Tryd.results11 _ _ (w.heap.size + 1) _ _ _ rfl hq Tryd.underlying29 rfl size_ep) rfl ?_
  exact ⟨rfl, hb⟩

theorem ewrite_any (s : E) (p v : Nat) (hp : p < 4294967296) (w : World) (hA : AreasAt w) :
    Calls Tryd.prog 11 #[.agg s.cells, .int .u32 (p : Nat), .int .u32 (v : Nat)] w fun e w' => e = .returned (.tuple #[.agg (writeE s p v).cells, errP (accE s p)]) ∧ Below w.heap.size w w' := by
  by_cases hz : accE s p = 0
  · by_cases h0 : p = 0
    · exact write_w0 s p v hp hz h0 w hA
    by_cases h1 : p = 8
    · by_cases h2 : s.cd = 1
      · exact write_w2 s p v hp hz h1 h2 w hA
      · exact write_w1 s p v hp hz h1 h2 w hA
    by_cases h3 : p = 16
    · by_cases h4 : v = 1
      · exact write_w3 s p v hp hz h3 h4 w hA
      · exact write_w4 s p v hp hz h3 h4 w hA
    exact write_w5 s p v hp hz ⟨h0, h1, h3⟩ w hA
  · exact write_bad s p v hp hz w hA
end Go.Proofs.YtalcgipcephnnaaDoor
