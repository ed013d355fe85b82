/-
  mem's calls that answer an error, and Load whatever pages are there.
-/
import Derived.Test.YtghpjibjhaomoaaGreatDoorJMeSame
namespace Go.Proofs.YtghpjibjhaomoaaGreatDoor
open Go.RowKit
set_option linter.unusedVariables false
attribute [local go_sem ↓] Go.wp_at_zero Go.wp_at_succ

/-- The number of the error of Load and Store. -/
theorem check_any (b P n a : Nat) (k : Int) (ha : a < 4294967296) (hn : n ≤ 16384) (w : World) (hP : PagesAt w b P n) :
    Calls Tryz.prog 52 #[.pointer (some ⟨b, 0, none⟩), .int .u32 a, .int .i64 k] w fun e w' => e = .returned (errM (numE a k n)) ∧ w' = w := by
  by_cases h : k = 1 ∨ k = 2 ∨ k = 4
  · obtain ⟨j, rfl⟩ : ∃ j : Nat, k = j := ⟨k.toNat, by omega⟩
    exact check_wide b P n a j (by omega) ha hn w hP
  · have hE : errM (numE a k n) = .iface 84 (.int .i64 21) := by
      unfold numE; rw [if_pos (by omega)]; rfl
    rw [hE]
    exact check_width b a k (by omega) (by omega) (by omega) w
theorem errM_some {c : Int} (h : c ≠ 0) : errM c = .iface 84 (.int .i64 c) := by unfold errM; rw [if_neg h]
set_option maxHeartbeats 600000 in
theorem load_bad (b P n a : Nat) (k : Int) (ha : a < 4294967296) (hn : n ≤ 16384) (w : World) (hP : PagesAt w b P n) (hk : numE a k n ≠ 0) :
    Calls Tryz.prog 56 #[.pointer (some ⟨b, 0, none⟩), .int .u32 a, .int .i64 k] w fun e w' => e = .returned (.tuple #[.int .u32 0, .iface 84 (.int .i64 (numE a k n))]) ∧ w' = w := by
  have HK := hide (check_any b P n a k ha hn w hP)
  rw [errM_some hk] at HK
  generalize numE a k n = c at *
  clear hP
  go_enter Tryz.func56, Tryz.ntmps56
  go_wp2_with (first | (go_at_call 52; refine HK.out.mono ?_; rintro e w1 ⟨rfl, rfl⟩))
  go_ret2
  exact ⟨rfl, rfl⟩
set_option maxHeartbeats 600000 in
theorem store_bad (b P n a : Nat) (k : Int) (v : Value) (ha : a < 4294967296) (hn : n ≤ 16384) (w : World) (hP : PagesAt w b P n) (hk : numE a k n ≠ 0) :
    Calls Tryz.prog 27 #[.pointer (some ⟨b, 0, none⟩), .int .u32 a, .int .i64 k, v] w fun e w' => e = .returned (.iface 84 (.int .i64 (numE a k n))) ∧ w' = w := by
  have HK := hide (check_any b P n a k ha hn w hP)
  rw [errM_some hk] at HK
  generalize numE a k n = c at *
  clear hP
  go_enter Tryz.func27, Tryz.ntmps27
  go_wp2_with (first | (go_at_call 52; refine HK.out.mono ?_; rintro e w1 ⟨rfl, rfl⟩))
  go_ret
  exact ⟨rfl, rfl⟩
theorem hasB_no {a : Nat} {k : Int} {n : Nat} (h0 : 0 < k) (h : (n : Int) * 4096 < a + k) : hasB a k n = false := by
  have h2 : (k == 0) = false := by simp; omega
  unfold hasB; rw [h2, Bool.false_or]; exact decide_eq_false (by omega)
set_option maxHeartbeats 600000 in
theorem write_far (b P n a l sc : Nat) (sa : Option Addr) (ha : a < 4294967296) (hn : n ≤ 16384) (h0 : 0 < l) (hl : l ≤ 1000000) (h : n * 4096 < a + l) (w : World) (hP : PagesAt w b P n) :
    Calls Tryz.prog 51 #[.pointer (some ⟨b, 0, none⟩), .int .u32 a, .slice sa l sc] w fun e w' => e = .returned (.iface 84 (.int .i64 4)) ∧ w' = w := by
  have HH := hide (has_any b P n a ha hn l (by omega) (by omega) w hP)
  rw [hasB_no (by omega) (by omega)] at HH
  clear hP
  go_enter Tryz.func51, Tryz.ntmps51
  go_wp2_with (first | (go_at_call 48; refine HH.out.mono ?_; rintro e w1 ⟨rfl, rfl⟩))
  go_ret
  exact ⟨rfl, rfl⟩
set_option maxHeartbeats 400000 in
theorem write_null (b a sc : Nat) (sa : Option Addr) (w : World) :
    Calls Tryz.prog 51 #[.pointer (some ⟨b, 0, none⟩), .int .u32 a, .slice sa 0 sc] w fun e w' => e = .returned .nilIface ∧ w' = w := by
  have HH := hide (has_zero b 0 0 a w)
  go_enter Tryz.func51, Tryz.ntmps51
  go_wp2_with (first | (go_at_call 48; refine HH.out.mono ?_; rintro e w1 ⟨rfl, rfl⟩))
  go_ret
  exact ⟨rfl, rfl⟩
set_option maxHeartbeats 600000 in
theorem read_neg (b a : Nat) (k : Int) (hk : k < 0) (w : World) :
    Calls Tryz.prog 23 #[.pointer (some ⟨b, 0, none⟩), .int .u32 a, .int .i64 k] w fun e w' => e = .returned (.tuple #[.slice none 0 0, .iface 84 (.int .i64 1)]) ∧ w' = w := by
  go_enter Tryz.func23, Tryz.ntmps23
  go_wp2
  go_ret2
  exact ⟨rfl, rfl⟩
set_option maxHeartbeats 600000 in
theorem read_far (b P n a : Nat) (k : Int) (ha : a < 4294967296) (hn : n ≤ 16384) (h0 : 0 < k) (h1 : k ≤ 9223372036854775807) (h : (n : Int) * 4096 < a + k) (w : World) (hP : PagesAt w b P n) :
    Calls Tryz.prog 23 #[.pointer (some ⟨b, 0, none⟩), .int .u32 a, .int .i64 k] w fun e w' => e = .returned (.tuple #[.slice none 0 0, .iface 84 (.int .i64 4)]) ∧ w' = w := by
  have HH := hide (has_any b P n a ha hn k (by omega) h1 w hP)
  rw [hasB_no h0 h] at HH
  have t0 : decide (k < 0) = false := decide_eq_false (by omega)
  clear hP h
  go_enter Tryz.func23, Tryz.ntmps23
  go_wp2_with (first | (go_at_call 48; refine HH.out.mono ?_; rintro e w1 ⟨rfl, rfl⟩))
  go_ret2
  exact ⟨rfl, rfl⟩
set_option maxHeartbeats 1000000 in
theorem load_all {w : World} {B b P D : Nat} {m : Mem} (h : RamAt w B b P D m) (hB : B ≤ w.heap.size) (a k : Nat) (ha : a < 4294967296) (hk : k = 1 ∨ k = 2 ∨ k = 4) (hal : a % k = 0) (hin : a + k ≤ m.n * 4096) (hby : ∀ o, o < 4096 → m.dat (a / 4096) o < 256) :
    Calls Tryz.prog 56 #[.pointer (some ⟨b, 0, none⟩), .int .u32 a, .int .i64 k] w fun e w' => e = .returned (.tuple #[.int .u32 (getN (fun j => UInt8.ofNat (m.dat (a / 4096) j)) (a % 4096) k : Nat), .nilIface]) ∧
      (∃ m', Looked m m' ∧ RamAt w' B b P D m' ∧ (m'.z = m.z ∨ ∃ x, m'.z = some x ∧ w.heap.size ≤ x)) ∧ Kept B w w' (m.owns b P D) := by
  have HK := hide (check_wide b P m.n a k hk ha h.few w h.pagesAt)
  rw [numE_ok hk hal hin] at HK
  obtain ⟨p, hp⟩ : ∃ p, p = a / 4096 := ⟨_, rfl⟩
  obtain ⟨o, ho⟩ : ∃ o, o = a % 4096 := ⟨_, rfl⟩
  have HSd := hide (split_any a ha)
  rw [← hp, ← ho] at HSd
  rw [← hp] at hby
  rw [← hp, ← ho]
  have hfew := h.few
  have hpk : p < m.n := by omega
  have hpl : p < 16384 := by omega
  have ho9 : o < 4096 := by omega
  have hk4 : k ≤ 4 := by omega
  have HL := hide (look_any h hB hpk)
  have hcp0 := (h.caps p hpk).1
  have hcp9 := (h.caps p hpk).2.1
  unfold maxLen at hcp9
  have HG : Hid (∀ w' g, HoldsAt w' g 4096 5 (fun o => .int .u8 (m.dat p o : Nat)) → Calls Tryz.prog 76 #[.slice (some ⟨g, 0, none⟩) 4096 (m.cap p), .int .i64 o, .int .i64 k] w' fun e W' => e = .returned (.tuple #[.int .u32 (getN (fun j => UInt8.ofNat (m.dat p j)) o k : Nat), .nilIface]) ∧ Below w'.heap.size w' W') := by
    refine hide (fun w' g hbt => ?_)
    refine get_any g 0 4096 (m.cap p) (fun j => UInt8.ofNat (m.dat p j)) o k hk ?_ ?_ (by omega) (by omega) (by omega) w' hbt.lt (fun j hj => ?_)
    · rcases hk with rfl | rfl | rfl <;> omega
    · rcases hk with rfl | rfl | rfl <;> omega
    · rw [Nat.zero_add, hbt.cell hj]
      have := hby j hj
      rw [show (UInt8.ofNat (m.dat p j)).toNat = m.dat p j by simp; omega]
  generalize getN (fun j => UInt8.ofNat (m.dat p j)) o k = v at *
  clear h hp ho hby hal
  go_enter Tryz.func56, Tryz.ntmps56
  go_wp2_with (first | (go_at_call 52; refine HK.out.mono ?_; rintro e w1 ⟨rfl, rfl⟩) | (go_at_call 49; refine (HSd.out _).mono ?_; rintro e w2 ⟨rfl, rfl⟩) | (go_at_call 50; refine HL.out.mono ?_; rintro e w3 ⟨g, m2, rfl, hx1, hx2, hx3, hx4, hx5, hx6⟩; have HL3 := hide hx1; have HM3 := hide hx2; have HG3 := hide hx3; have HK3 := hide hx4; have HZ3 := hide hx6; clear hx1 hx2 hx3 hx4 hx5 hx6) | (go_at_call 76; refine (HG.out _ _ HG3.out).mono ?_; rintro e w4 ⟨rfl, hx4⟩; have HB4 := hide hx4; clear hx4))
  go_ret2
  exact ⟨rfl, ⟨m2, HL3.out, HM3.out.bl HB4.out, HZ3.out⟩, HK3.out.trans (Kept.of HB4.out (Nat.le_trans hB HK3.out.size))⟩
end Go.Proofs.YtghpjibjhaomoaaGreatDoor
