/-
  What mem's Load and Store do where the place may be.
-/
import Derived.Test.YtghpjibjhaomoaaGreatDoorJMeWith
namespace Go.Proofs.YtghpjibjhaomoaaGreatDoor
open Go.RowKit
set_option linter.unusedVariables false
attribute [local go_sem ↓] Go.wp_at_zero Go.wp_at_succ

theorem numE_ok {a k n : Nat} (hk : k = 1 ∨ k = 2 ∨ k = 4) (hal : a % k = 0) (hin : a + k ≤ n * 4096) : errM (numE a k n) = .nilIface := by
  have h0 : ¬ ((k : Int) ≠ 1 ∧ (k : Int) ≠ 2 ∧ (k : Int) ≠ 4) := by omega
  have h1 : ¬ (n : Int) * 4096 < (a : Int) + (k : Int) := by omega
  have h2 : ¬ (a : Int) % (k : Int) ≠ 0 := by rcases hk with rfl | rfl | rfl <;> omega
  have e : numE a k n = 0 := by rw [numE, if_neg h0, if_neg h1, if_neg h2]
  rw [e]; rfl

set_option maxHeartbeats 600000 in
theorem load_there {w : World} {B b P D : Nat} {m : Mem} (h : RamAt w B b P D m) (a k : Nat) (ha : a < 4294967296) (hk : k = 1 ∨ k = 2 ∨ k = 4) (hal : a % k = 0) (hin : a + k ≤ m.n * 4096) (g : Nat) (hg : m.blk (a / 4096) = some g) (hby : ∀ o, o < 4096 → m.dat (a / 4096) o < 256) :
    Calls Tryz.prog 56 #[.pointer (some ⟨b, 0, none⟩), .int .u32 a, .int .i64 k] w fun e w' => e = .returned (.tuple #[.int .u32 (getN (fun j => UInt8.ofNat (m.dat (a / 4096) j)) (a % 4096) k : Nat), .nilIface]) ∧ Below w.heap.size w w' := by
  have HK := hide (check_wide b P m.n a k hk ha h.few w h.pagesAt)
  rw [numE_ok hk hal hin] at HK
  obtain ⟨p, hp⟩ : ∃ p, p = a / 4096 := ⟨_, rfl⟩
  obtain ⟨o, ho⟩ : ∃ o, o = a % 4096 := ⟨_, rfl⟩
  have HSd := hide (split_any a ha)
  rw [← hp, ← ho] at HSd
  rw [← hp] at hg hby
  rw [← hp, ← ho]
  have hfew := h.few
  have hpk : p < m.n := by omega
  have hpl : p < 16384 := by omega
  have ho9 : o < 4096 := by omega
  have hk4 : k ≤ 4 := by omega
  have HL := hide (look_ram h hpk hg)
  have hcp0 := (h.caps p hpk).1
  have hcp9 := (h.caps p hpk).2.1
  unfold maxLen at hcp9
  have HG : Hid (∀ w', Below w.heap.size w w' → Calls Tryz.prog 76 #[.slice (some ⟨g, 0, none⟩) 4096 (m.cap p), .int .i64 o, .int .i64 k] w' fun e W' => e = .returned (.tuple #[.int .u32 (getN (fun j => UInt8.ofNat (m.dat p j)) o k : Nat), .nilIface]) ∧ Below w'.heap.size w' W') := by
    refine hide (fun w' hb => ?_)
    have hbt := (h.bytes p g hpk hg).bl hb
    refine get_any g 0 4096 (m.cap p) (fun j => UInt8.ofNat (m.dat p j)) o k hk ?_ ?_ (by omega) (by omega) (by omega) w' hbt.lt (fun j hj => ?_)
    · rcases hk with rfl | rfl | rfl <;> omega
    · rcases hk with rfl | rfl | rfl <;> omega
    · rw [Nat.zero_add, hbt.cell hj]
      have := hby j hj
      rw [show (UInt8.ofNat (m.dat p j)).toNat = m.dat p j by simp; omega]
  generalize getN (fun j => UInt8.ofNat (m.dat p j)) o k = v at *
  clear h hp ho hg hby hal
  go_enter Tryz.func56, Tryz.ntmps56
  go_wp2_with (first | (go_at_call 52; refine HK.out.mono ?_; rintro e w1 ⟨rfl, rfl⟩) | (go_at_call 49; refine (HSd.out _).mono ?_; rintro e w2 ⟨rfl, rfl⟩) | (go_at_call 50; refine HL.out.mono ?_; rintro e w3 ⟨rfl, hx3⟩; have HB3 := hide hx3; clear hx3) | (go_at_call 76; refine (HG.out _ HB3.out).mono ?_; rintro e w4 ⟨rfl, hx4⟩; have HB4 := hide hx4; clear hx4))
  go_ret2
  exact ⟨rfl, HB3.out.trans (HB4.out.mono HB3.out.size)⟩
end Go.Proofs.YtghpjibjhaomoaaGreatDoor
