/-
  MemBack, walked.
-/
import Derived.Test.YtijeceibkdcdaaaMeBackM
namespace Go.Proofs.Ytijeceibkdcdaaa
open Go.RowKit
set_option linter.unusedVariables false

theorem store_back (j : Nat) (hj : j < 12288) (B b P D : Nat) (w1 : World) (hB : B ≤ w1.heap.size) (h : RamAt w1 B b P D (Mem.fresh 3)) :
    Calls Try.prog 5 #[.pointer (some ⟨b, 0, none⟩), .int .u32 (j : Nat), .int .i64 1, .int .u32 171] w1 fun e w' => e = .returned .nilIface ∧ ∃ m, Stored j w1.heap.size m ∧ RamAt w' B b P D m ∧ Below B w1 w' := by
  refine (store_ok h hB j 1 (by omega) (.inl rfl) (Nat.mod_one _) (by show j + 1 ≤ 3 * 4096; omega) 171 (by omega) (by show 0 ≤ 1000000; omega)).mono ?_
  rintro e w' ⟨rfl, q, h1, h2, h3⟩
  exact ⟨rfl, _, ⟨q, h1, rfl⟩, h2, h3.below⟩
theorem write_back (i j S : Nat) (l : List UInt8) (N : Nat) (hN : l.length = N) (hp : 0 < N) (hi : i + N ≤ 12288) (B b P D : Nat) (w : World) (m : Mem) (hm : Stored j S m) (hB : B ≤ w.heap.size) (h : RamAt w B b P D m)
    (sb so sc : Nat) (hsc : N ≤ sc) (hsb : sb < B) (hsrc : ∀ x u, (cellsB l)[x]? = some u → w.cell? ⟨sb, so + x, none⟩ = some u) :
    Calls Try.prog 7 #[.pointer (some ⟨b, 0, none⟩), .int .u32 (i : Nat), .slice (some ⟨sb, so, none⟩) N sc] w fun e w' => e = .returned .nilIface ∧ ∃ m' S', Written i j S S' l m' ∧ RamAt w' B b P D m' ∧ Below B w w' := by
  refine (write_some h hB i (by omega) (natB l) N (by simpa [natB] using hN) hp (by rw [hm.n]; omega) sb so sc hsc (fun x u hx => hsrc x u (by rw [← byteV_natB]; exact hx)) (by omega) (fun ho => by have := h.owns_low ho; omega) (by rw [hm.wr]; omega)).mono ?_
  rintro e w' ⟨rfl, k, h1, h2, h3⟩
  exact ⟨rfl, _, _, ⟨m, k, hm, by rw [hN]; exact h1, rfl⟩, h2, h3.below⟩
theorem read_back' (i j S S' : Nat) (l : List UInt8) (N : Nat) (hN : l.length = N) (hp : 0 < N) (hi : i + N ≤ 12288) (B b P D : Nat) (w : World) (m : Mem) (hm : Written i j S S' l m) (h : RamAt w B b P D m) :
    Calls Try.prog 8 #[.pointer (some ⟨b, 0, none⟩), .int .u32 (i : Nat), .int .i64 N] w fun e w' => e = .returned (.tuple #[.slice (some ⟨w.heap.size, 0, none⟩) N N, .nilIface]) ∧ w.heap.size < w'.heap.size ∧ (∀ x u, (cellsB l)[x]? = some u → w'.cell? ⟨w.heap.size, 0 + x, none⟩ = some u) ∧ Below w.heap.size w w' := by
  subst hN
  refine (read_some h i (by omega) l.length hp (by rw [hm.n]; omega) hm.all).mono ?_
  rintro e w' ⟨rfl, h1, h2⟩
  exact ⟨rfl, h1.lt, read_back hm h1, h2⟩

set_option maxHeartbeats 600000 in
theorem back_long (A K : Int) (i j : Nat) (ri : A % 12288 = (i : Nat)) (rj : K % 12288 = (j : Nat)) (hA : 0 ≤ A ∧ A < 4294967296) (hK : 0 ≤ K ∧ K < 4294967296) (a0 : Option Addr) (N cap : Nat) (hN : N ≤ 9223372036854775807) (hl : 4000 < N) (w : World) :
    Calls Try.prog 3 #[.int .u32 A, .slice a0 N cap, .int .u32 K] w fun e w' => e = .returned (.bool true) ∧ Below w.heap.size w w' := by
  have hj : j < 12288 := by omega
  have hi : i < 12288 := by omega
  have HN := hide (new_ram 3 (by omega) (by omega) w)
  have HS := hide (store_back j hj)
  have hl2 : (4000 : Int) < (N : Nat) := by omega
  go_enter Try.func3, Try.ntmps3
  go_wp2_with (first | (go_at_call 4; refine HN.out.mono ?_; rintro e w1 ⟨rfl, ⟨P, D, hx1⟩, hx2⟩; have H1 := hide hx1; have H2 := hide hx2; clear hx1 hx2) | (go_at_call 5; refine (HS.out _ _ P D _ H2.out.size H1.out).mono ?_; rintro e w2 ⟨rfl, m1, hx3, hx4, hx5⟩; have H3 := hide hx3; have H4 := hide hx4; have H5 := hide (H2.out.trans hx5); clear hx3 hx4 hx5) | (go_at_call 6; refine (sure_any _).mono ?_; rintro e w6 ⟨rfl, hx⟩; have H9 := hide (below_bl rfl H5.out hx); clear hx))
  go_ret
  exact ⟨rfl, H9.out⟩

set_option maxHeartbeats 600000 in
theorem back_over (A K : Int) (i j : Nat) (ri : A % 12288 = (i : Nat)) (rj : K % 12288 = (j : Nat)) (hA : 0 ≤ A ∧ A < 4294967296) (hK : 0 ≤ K ∧ K < 4294967296) (a0 : Option Addr) (N cap : Nat) (hN : N ≤ 9223372036854775807) (hl : ¬ 4000 < N) (ho : 12288 < i + N) (w : World) :
    Calls Try.prog 3 #[.int .u32 A, .slice a0 N cap, .int .u32 K] w fun e w' => e = .returned (.bool true) ∧ Below w.heap.size w w' := by
  have hj : j < 12288 := by omega
  have hi : i < 12288 := by omega
  have HN := hide (new_ram 3 (by omega) (by omega) w)
  have HS := hide (store_back j hj)
  have hl2 : ¬ (4000 : Int) < (N : Nat) := by omega
  have ho2 : (12288 : Int) < (i : Nat) + (N : Nat) := by omega
  go_enter Try.func3, Try.ntmps3
  go_wp2_with (first | (go_at_call 4; refine HN.out.mono ?_; rintro e w1 ⟨rfl, ⟨P, D, hx1⟩, hx2⟩; have H1 := hide hx1; have H2 := hide hx2; clear hx1 hx2) | (go_at_call 5; refine (HS.out _ _ P D _ H2.out.size H1.out).mono ?_; rintro e w2 ⟨rfl, m1, hx3, hx4, hx5⟩; have H3 := hide hx3; have H4 := hide hx4; have H5 := hide (H2.out.trans hx5); clear hx3 hx4 hx5) | (go_at_call 6; refine (sure_any _).mono ?_; rintro e w6 ⟨rfl, hx⟩; have H9 := hide (below_bl rfl H5.out hx); clear hx))
  go_ret
  exact ⟨rfl, H9.out⟩

set_option maxHeartbeats 1000000 in
theorem back_below (A K : Int) (i j : Nat) (ri : A % 12288 = (i : Nat)) (rj : K % 12288 = (j : Nat)) (hA : 0 ≤ A ∧ A < 4294967296) (hK : 0 ≤ K ∧ K < 4294967296) (sb so cap : Nat) (l : List UInt8) (N : Nat) (hlN : l.length = N) (hp : 0 < N) (hc : N ≤ cap) (hN : N ≤ 4000) (ho : i + N ≤ 12288) (hin : j < i) (w : World) (hsb : sb < w.heap.size) (hsrc : ∀ x u, (cellsB l)[x]? = some u → w.cell? ⟨sb, so + x, none⟩ = some u) :
    Calls Try.prog 3 #[.int .u32 A, .slice (some ⟨sb, so, none⟩) N cap, .int .u32 K] w fun e w' => e = .returned (.bool true) ∧ Below w.heap.size w w' := by
  have hj : j < 12288 := by omega
  have hi : i < 12288 := by omega
  have HN := hide (new_ram 3 (by omega) (by omega) w)
  have HS := hide (store_back j hj)
  have hl2 : ¬ (4000 : Int) < (N : Nat) := by omega
  have ho2 : ¬ (12288 : Int) < (i : Nat) + (N : Nat) := by omega
  have HSrc : Hid (∀ w', Below w.heap.size w w' → ∀ x u, (cellsB l)[x]? = some u → w'.cell? ⟨sb, so + x, none⟩ = some u) := hide (fun w' hb x u hx => (hb.cell (p := ⟨sb, so + x, none⟩) hsb).trans (hsrc x u hx))
  have HW := hide (fun b P D w' m S (hm : Stored j S m) (hB : w.heap.size ≤ w'.heap.size) h => write_back i j S l N hlN hp ho w.heap.size b P D w' m hm hB h sb so cap hc hsb)
  have HR := hide (fun S S' b P D w' m (hm : Written i j S S' l m) h => read_back' i j S S' l N hlN hp ho w.heap.size b P D w' m hm h)
  have HL : Hid (∀ (S S' b P D : Nat) (w' : World) (m : Mem), Written i j S S' l m → RamAt w' w.heap.size b P D m → Calls Try.prog 9 #[.pointer (some ⟨b, 0, none⟩), .int .u32 (j : Nat), .int .i64 1] w' fun e w'' => e = .returned (.tuple #[.int .u32 (backV i j l : Nat), .nilIface]) ∧ Below w'.heap.size w' w'') := hide (fun S S' b P D w' m hm h => load_back h hm hj)
  have HStr : Hid (∀ (W : World) (b off c : Nat), (∀ x u, (cellsB l)[x]? = some u → W.cell? ⟨b, off + x, none⟩ = some u) → (convert 23 9 (.slice (some ⟨b, off, none⟩) N c)).run Try.prog W = .ok (.string ⟨l.toArray⟩) W) := hide (fun W b off c h => by subst hlN; exact str_of_cells h)
  obtain ⟨st, hst⟩ : ∃ st : ByteArray, (⟨l.toArray⟩ : ByteArray) = st := ⟨_, rfl⟩
  rw [hst] at HStr
  have hv : backV i j l = 171 := by unfold backV; rw [if_neg (by omega)]
  rw [hv] at HL
  clear hv
  have q1 : ¬ i ≤ j := by omega
  clear hst hsrc
  go_enter Try.func3, Try.ntmps3
  go_wp2_with (first | (go_at_call 4; refine HN.out.mono ?_; rintro e w1 ⟨rfl, ⟨P, D, hx1⟩, hx2⟩; have H1 := hide hx1; have H2 := hide hx2; clear hx1 hx2) | (go_at_call 5; refine (HS.out _ _ P D _ H2.out.size H1.out).mono ?_; rintro e w2 ⟨rfl, m1, hx3, hx4, hx5⟩; have H3 := hide hx3; have H4 := hide hx4; have H5 := hide (H2.out.trans hx5); clear hx3 hx4 hx5) | (go_at_call 7; refine (HW.out _ P D _ m1 _ H3.out H5.out.size H4.out (HSrc.out _ H5.out)).mono ?_; rintro e w3 ⟨rfl, m2, S2, hx3, hx4, hx5⟩; have H6 := hide hx3; have H7 := hide hx4; have H8 := hide (H5.out.trans hx5); clear hx3 hx4 hx5) | (go_at_call 8; refine (HR.out _ _ _ P D _ m2 H6.out H7.out).mono ?_; rintro e w4 ⟨rfl, hx0, hx1, hx2⟩; have H10 := hide hx1; have H11 := hide hx2; have H12 := hide (below_bl rfl H8.out hx2); have H13 := hide (H7.out.bl hx2); have H14 := hide hx0; clear hx0 hx1 hx2) | (go_at_call 9; refine (HL.out _ _ _ P D _ m2 H6.out H13.out).mono ?_; rintro e w5 ⟨rfl, hx⟩; have H15 := hide (below_bl rfl H12.out hx); have s1 := HStr.out w5 w3.heap.size 0 N (fun x u hu => (hx.cell (p := ⟨w3.heap.size, 0 + x, none⟩) H14.out).trans (H10.out x u hu)); have s2 := HStr.out w5 sb so cap (HSrc.out _ H15.out); clear hx) | (go_at_call 6; refine (sure_any _).mono ?_; rintro e w6 ⟨rfl, hx⟩; have H9 := hide (below_bl rfl H15.out hx); clear hx))
  go_ret
  exact ⟨rfl, H9.out⟩

set_option maxHeartbeats 1000000 in
theorem back_above (A K : Int) (i j : Nat) (ri : A % 12288 = (i : Nat)) (rj : K % 12288 = (j : Nat)) (hA : 0 ≤ A ∧ A < 4294967296) (hK : 0 ≤ K ∧ K < 4294967296) (sb so cap : Nat) (l : List UInt8) (N : Nat) (hlN : l.length = N) (hp : 0 < N) (hc : N ≤ cap) (hN : N ≤ 4000) (ho : i + N ≤ 12288) (hin : i ≤ j) (hin2 : i + N ≤ j) (w : World) (hsb : sb < w.heap.size) (hsrc : ∀ x u, (cellsB l)[x]? = some u → w.cell? ⟨sb, so + x, none⟩ = some u) :
    Calls Try.prog 3 #[.int .u32 A, .slice (some ⟨sb, so, none⟩) N cap, .int .u32 K] w fun e w' => e = .returned (.bool true) ∧ Below w.heap.size w w' := by
  have hj : j < 12288 := by omega
  have hi : i < 12288 := by omega
  have HN := hide (new_ram 3 (by omega) (by omega) w)
  have HS := hide (store_back j hj)
  have hl2 : ¬ (4000 : Int) < (N : Nat) := by omega
  have ho2 : ¬ (12288 : Int) < (i : Nat) + (N : Nat) := by omega
  have HSrc : Hid (∀ w', Below w.heap.size w w' → ∀ x u, (cellsB l)[x]? = some u → w'.cell? ⟨sb, so + x, none⟩ = some u) := hide (fun w' hb x u hx => (hb.cell (p := ⟨sb, so + x, none⟩) hsb).trans (hsrc x u hx))
  have HW := hide (fun b P D w' m S (hm : Stored j S m) (hB : w.heap.size ≤ w'.heap.size) h => write_back i j S l N hlN hp ho w.heap.size b P D w' m hm hB h sb so cap hc hsb)
  have HR := hide (fun S S' b P D w' m (hm : Written i j S S' l m) h => read_back' i j S S' l N hlN hp ho w.heap.size b P D w' m hm h)
  have HL : Hid (∀ (S S' b P D : Nat) (w' : World) (m : Mem), Written i j S S' l m → RamAt w' w.heap.size b P D m → Calls Try.prog 9 #[.pointer (some ⟨b, 0, none⟩), .int .u32 (j : Nat), .int .i64 1] w' fun e w'' => e = .returned (.tuple #[.int .u32 (backV i j l : Nat), .nilIface]) ∧ Below w'.heap.size w' w'') := hide (fun S S' b P D w' m hm h => load_back h hm hj)
  have HStr : Hid (∀ (W : World) (b off c : Nat), (∀ x u, (cellsB l)[x]? = some u → W.cell? ⟨b, off + x, none⟩ = some u) → (convert 23 9 (.slice (some ⟨b, off, none⟩) N c)).run Try.prog W = .ok (.string ⟨l.toArray⟩) W) := hide (fun W b off c h => by subst hlN; exact str_of_cells h)
  obtain ⟨st, hst⟩ : ∃ st : ByteArray, (⟨l.toArray⟩ : ByteArray) = st := ⟨_, rfl⟩
  rw [hst] at HStr
  have hv : backV i j l = 171 := by unfold backV; rw [if_neg (by omega)]
  rw [hv] at HL
  clear hv
  have q2 : ¬ (j : Int) < (i : Nat) + (N : Nat) := by omega
  clear hst hsrc
  go_enter Try.func3, Try.ntmps3
  go_wp2_with (first | (go_at_call 4; refine HN.out.mono ?_; rintro e w1 ⟨rfl, ⟨P, D, hx1⟩, hx2⟩; have H1 := hide hx1; have H2 := hide hx2; clear hx1 hx2) | (go_at_call 5; refine (HS.out _ _ P D _ H2.out.size H1.out).mono ?_; rintro e w2 ⟨rfl, m1, hx3, hx4, hx5⟩; have H3 := hide hx3; have H4 := hide hx4; have H5 := hide (H2.out.trans hx5); clear hx3 hx4 hx5) | (go_at_call 7; refine (HW.out _ P D _ m1 _ H3.out H5.out.size H4.out (HSrc.out _ H5.out)).mono ?_; rintro e w3 ⟨rfl, m2, S2, hx3, hx4, hx5⟩; have H6 := hide hx3; have H7 := hide hx4; have H8 := hide (H5.out.trans hx5); clear hx3 hx4 hx5) | (go_at_call 8; refine (HR.out _ _ _ P D _ m2 H6.out H7.out).mono ?_; rintro e w4 ⟨rfl, hx0, hx1, hx2⟩; have H10 := hide hx1; have H11 := hide hx2; have H12 := hide (below_bl rfl H8.out hx2); have H13 := hide (H7.out.bl hx2); have H14 := hide hx0; clear hx0 hx1 hx2) | (go_at_call 9; refine (HL.out _ _ _ P D _ m2 H6.out H13.out).mono ?_; rintro e w5 ⟨rfl, hx⟩; have H15 := hide (below_bl rfl H12.out hx); have s1 := HStr.out w5 w3.heap.size 0 N (fun x u hu => (hx.cell (p := ⟨w3.heap.size, 0 + x, none⟩) H14.out).trans (H10.out x u hu)); have s2 := HStr.out w5 sb so cap (HSrc.out _ H15.out); clear hx) | (go_at_call 6; refine (sure_any _).mono ?_; rintro e w6 ⟨rfl, hx⟩; have H9 := hide (below_bl rfl H15.out hx); clear hx))
  go_ret
  exact ⟨rfl, H9.out⟩

set_option maxHeartbeats 1000000 in
theorem back_inside (A K : Int) (i j : Nat) (ri : A % 12288 = (i : Nat)) (rj : K % 12288 = (j : Nat)) (hA : 0 ≤ A ∧ A < 4294967296) (hK : 0 ≤ K ∧ K < 4294967296) (sb so cap : Nat) (l : List UInt8) (N : Nat) (hlN : l.length = N) (hp : 0 < N) (hc : N ≤ cap) (hN : N ≤ 4000) (ho : i + N ≤ 12288) (hin : i ≤ j) (hin2 : j < i + N) (w : World) (hsb : sb < w.heap.size) (hsrc : ∀ x u, (cellsB l)[x]? = some u → w.cell? ⟨sb, so + x, none⟩ = some u) :
    Calls Try.prog 3 #[.int .u32 A, .slice (some ⟨sb, so, none⟩) N cap, .int .u32 K] w fun e w' => e = .returned (.bool true) ∧ Below w.heap.size w w' := by
  have hj : j < 12288 := by omega
  have hi : i < 12288 := by omega
  have HN := hide (new_ram 3 (by omega) (by omega) w)
  have HS := hide (store_back j hj)
  have hl2 : ¬ (4000 : Int) < (N : Nat) := by omega
  have ho2 : ¬ (12288 : Int) < (i : Nat) + (N : Nat) := by omega
  have HSrc : Hid (∀ w', Below w.heap.size w w' → ∀ x u, (cellsB l)[x]? = some u → w'.cell? ⟨sb, so + x, none⟩ = some u) := hide (fun w' hb x u hx => (hb.cell (p := ⟨sb, so + x, none⟩) hsb).trans (hsrc x u hx))
  have HW := hide (fun b P D w' m S (hm : Stored j S m) (hB : w.heap.size ≤ w'.heap.size) h => write_back i j S l N hlN hp ho w.heap.size b P D w' m hm hB h sb so cap hc hsb)
  have HR := hide (fun S S' b P D w' m (hm : Written i j S S' l m) h => read_back' i j S S' l N hlN hp ho w.heap.size b P D w' m hm h)
  have HL : Hid (∀ (S S' b P D : Nat) (w' : World) (m : Mem), Written i j S S' l m → RamAt w' w.heap.size b P D m → Calls Try.prog 9 #[.pointer (some ⟨b, 0, none⟩), .int .u32 (j : Nat), .int .i64 1] w' fun e w'' => e = .returned (.tuple #[.int .u32 (backV i j l : Nat), .nilIface]) ∧ Below w'.heap.size w' w'') := hide (fun S S' b P D w' m hm h => load_back h hm hj)
  have HStr : Hid (∀ (W : World) (b off c : Nat), (∀ x u, (cellsB l)[x]? = some u → W.cell? ⟨b, off + x, none⟩ = some u) → (convert 23 9 (.slice (some ⟨b, off, none⟩) N c)).run Try.prog W = .ok (.string ⟨l.toArray⟩) W) := hide (fun W b off c h => by subst hlN; exact str_of_cells h)
  obtain ⟨st, hst⟩ : ∃ st : ByteArray, (⟨l.toArray⟩ : ByteArray) = st := ⟨_, rfl⟩
  rw [hst] at HStr
  obtain ⟨t, ht⟩ : ∃ t : Nat, j - i = t := ⟨_, rfl⟩
  have q2 : (j : Int) < (i : Nat) + (N : Nat) := by omega
  have q3 : (j : Int) - (i : Nat) = (t : Nat) := by omega
  have htN : t < N := by omega
  obtain ⟨u, hu⟩ : ∃ u, l[t]? = some u := ⟨_, List.getElem?_eq_getElem (by omega)⟩
  have hu2 : (cellsB l)[t]? = some (.int .u8 (u.toNat : Int)) := by unfold cellsB; rw [List.getElem?_map, hu]; rfl
  have HU := hide hu2
  have hv : backV i j l = u.toNat := by unfold backV; rw [if_pos (by omega), ht]; unfold natB; rw [List.getElem?_map, hu]; rfl
  rw [hv] at HL
  have hu3 := u.toNat_lt
  generalize u.toNat = v at *
  clear hv hu hu2 ht
  clear hst hsrc
  go_enter Try.func3, Try.ntmps3
  go_wp2_with (first | (go_at_call 4; refine HN.out.mono ?_; rintro e w1 ⟨rfl, ⟨P, D, hx1⟩, hx2⟩; have H1 := hide hx1; have H2 := hide hx2; clear hx1 hx2) | (go_at_call 5; refine (HS.out _ _ P D _ H2.out.size H1.out).mono ?_; rintro e w2 ⟨rfl, m1, hx3, hx4, hx5⟩; have H3 := hide hx3; have H4 := hide hx4; have H5 := hide (H2.out.trans hx5); clear hx3 hx4 hx5) | (go_at_call 7; refine (HW.out _ P D _ m1 _ H3.out H5.out.size H4.out (HSrc.out _ H5.out)).mono ?_; rintro e w3 ⟨rfl, m2, S2, hx3, hx4, hx5⟩; have H6 := hide hx3; have H7 := hide hx4; have H8 := hide (H5.out.trans hx5); clear hx3 hx4 hx5) | (go_at_call 8; refine (HR.out _ _ _ P D _ m2 H6.out H7.out).mono ?_; rintro e w4 ⟨rfl, hx0, hx1, hx2⟩; have H10 := hide hx1; have H11 := hide hx2; have H12 := hide (below_bl rfl H8.out hx2); have H13 := hide (H7.out.bl hx2); have H14 := hide hx0; clear hx0 hx1 hx2) | (go_at_call 9; refine (HL.out _ _ _ P D _ m2 H6.out H13.out).mono ?_; rintro e w5 ⟨rfl, hx⟩; have H15 := hide (below_bl rfl H12.out hx); have s1 := HStr.out w5 w3.heap.size 0 N (fun x u hu => (hx.cell (p := ⟨w3.heap.size, 0 + x, none⟩) H14.out).trans (H10.out x u hu)); have s2 := HStr.out w5 sb so cap (HSrc.out _ H15.out); have s3 := HSrc.out _ H15.out t _ HU.out; clear hx) | (go_at_call 6; refine (sure_any _).mono ?_; rintro e w6 ⟨rfl, hx⟩; have H9 := hide (below_bl rfl H15.out hx); clear hx))
  go_ret
  exact ⟨rfl, H9.out⟩

theorem load_stored {w : World} {B b P D j S : Nat} {m : Mem} (h : RamAt w B b P D m) (hm : Stored j S m) (hj : j < 12288) :
    Calls Try.prog 9 #[.pointer (some ⟨b, 0, none⟩), .int .u32 (j : Nat), .int .i64 1] w fun e w' => e = .returned (.tuple #[.int .u32 171, .nilIface]) ∧ Below w.heap.size w w' := by
  obtain ⟨g, hg⟩ := hm.there
  have hby : ∀ x, m.at x < 256 := fun x => by rw [hm.at x]; split <;> decide
  refine (load_there h j 1 (by omega) (.inl rfl) (Nat.mod_one _) (by rw [hm.n]; omega) g hg (fun o ho => by rw [m.dat_at _ o ho]; exact hby _)).mono ?_
  rintro e w' ⟨rfl, hb⟩
  refine ⟨?_, hb⟩
  have hv : getN (fun o => UInt8.ofNat (m.dat (j / 4096) o)) (j % 4096) 1 = 171 := by
    rw [getN_one]
    have e : m.dat (j / 4096) (j % 4096) = m.at j := rfl
    rw [e, hm.at j, if_pos rfl]
    rfl
  rw [hv]
  rfl

set_option maxHeartbeats 1000000 in
theorem back_none_below (A K : Int) (i j : Nat) (ri : A % 12288 = (i : Nat)) (rj : K % 12288 = (j : Nat)) (hA : 0 ≤ A ∧ A < 4294967296) (hK : 0 ≤ K ∧ K < 4294967296) (a0 : Option Addr) (cap : Nat) (hin : ¬ i ≤ j) (w : World) :
    Calls Try.prog 3 #[.int .u32 A, .slice a0 0 cap, .int .u32 K] w fun e w' => e = .returned (.bool true) ∧ Below w.heap.size w w' := by
  have hj : j < 12288 := by omega
  have hi : i < 12288 := by omega
  have HN := hide (new_ram 3 (by omega) (by omega) w)
  have HS := hide (store_back j hj)
  have HL : Hid (∀ (S b P D : Nat) (w' : World) (m : Mem), Stored j S m → RamAt w' w.heap.size b P D m → Calls Try.prog 9 #[.pointer (some ⟨b, 0, none⟩), .int .u32 (j : Nat), .int .i64 1] w' fun e w'' => e = .returned (.tuple #[.int .u32 171, .nilIface]) ∧ Below w'.heap.size w' w'') := hide (fun S b P D w' m hm h => load_stored h hm hj)
  have ho2 : ¬ (12288 : Int) < (i : Nat) := by omega
  have sn := str_empty
  go_enter Try.func3, Try.ntmps3
  go_wp2_with (first | (go_at_call 4; refine HN.out.mono ?_; rintro e w1 ⟨rfl, ⟨P, D, hx1⟩, hx2⟩; have H1 := hide hx1; have H2 := hide hx2; clear hx1 hx2) | (go_at_call 5; refine (HS.out _ _ P D _ H2.out.size H1.out).mono ?_; rintro e w2 ⟨rfl, m1, hx3, hx4, hx5⟩; have H3 := hide hx3; have H4 := hide hx4; have H5 := hide (H2.out.trans hx5); clear hx3 hx4 hx5) | (go_at_call 7; refine (write_none _ _ _ _ _).mono ?_; rintro e w3 ⟨rfl, rfl⟩) | (go_at_call 8; refine (read_none _ _ _).mono ?_; rintro e w4 ⟨rfl, hx2⟩; have H12 := hide (below_bl rfl H5.out hx2); have H13 := hide (H4.out.bl hx2); clear hx2) | (go_at_call 9; refine (HL.out _ _ P D _ m1 H3.out H13.out).mono ?_; rintro e w5 ⟨rfl, hx⟩; have H15 := hide (below_bl rfl H12.out hx); clear hx) | (go_at_call 6; refine (sure_any _).mono ?_; rintro e w6 ⟨rfl, hx⟩; have H9 := hide (below_bl rfl H15.out hx); clear hx))
  go_ret
  exact ⟨rfl, H9.out⟩

set_option maxHeartbeats 1000000 in
theorem back_none_above (A K : Int) (i j : Nat) (ri : A % 12288 = (i : Nat)) (rj : K % 12288 = (j : Nat)) (hA : 0 ≤ A ∧ A < 4294967296) (hK : 0 ≤ K ∧ K < 4294967296) (a0 : Option Addr) (cap : Nat) (hin : i ≤ j) (q2 : ¬ (j : Int) < (i : Nat)) (w : World) :
    Calls Try.prog 3 #[.int .u32 A, .slice a0 0 cap, .int .u32 K] w fun e w' => e = .returned (.bool true) ∧ Below w.heap.size w w' := by
  have hj : j < 12288 := by omega
  have hi : i < 12288 := by omega
  have HN := hide (new_ram 3 (by omega) (by omega) w)
  have HS := hide (store_back j hj)
  have HL : Hid (∀ (S b P D : Nat) (w' : World) (m : Mem), Stored j S m → RamAt w' w.heap.size b P D m → Calls Try.prog 9 #[.pointer (some ⟨b, 0, none⟩), .int .u32 (j : Nat), .int .i64 1] w' fun e w'' => e = .returned (.tuple #[.int .u32 171, .nilIface]) ∧ Below w'.heap.size w' w'') := hide (fun S b P D w' m hm h => load_stored h hm hj)
  have ho2 : ¬ (12288 : Int) < (i : Nat) := by omega
  have sn := str_empty
  go_enter Try.func3, Try.ntmps3
  go_wp2_with (first | (go_at_call 4; refine HN.out.mono ?_; rintro e w1 ⟨rfl, ⟨P, D, hx1⟩, hx2⟩; have H1 := hide hx1; have H2 := hide hx2; clear hx1 hx2) | (go_at_call 5; refine (HS.out _ _ P D _ H2.out.size H1.out).mono ?_; rintro e w2 ⟨rfl, m1, hx3, hx4, hx5⟩; have H3 := hide hx3; have H4 := hide hx4; have H5 := hide (H2.out.trans hx5); clear hx3 hx4 hx5) | (go_at_call 7; refine (write_none _ _ _ _ _).mono ?_; rintro e w3 ⟨rfl, rfl⟩) | (go_at_call 8; refine (read_none _ _ _).mono ?_; rintro e w4 ⟨rfl, hx2⟩; have H12 := hide (below_bl rfl H5.out hx2); have H13 := hide (H4.out.bl hx2); clear hx2) | (go_at_call 9; refine (HL.out _ _ P D _ m1 H3.out H13.out).mono ?_; rintro e w5 ⟨rfl, hx⟩; have H15 := hide (below_bl rfl H12.out hx); clear hx) | (go_at_call 6; refine (sure_any _).mono ?_; rintro e w6 ⟨rfl, hx⟩; have H9 := hide (below_bl rfl H15.out hx); clear hx))
  go_ret
  exact ⟨rfl, H9.out⟩

end Go.Proofs.Ytijeceibkdcdaaa
