/-
  What the document's reg answers.
-/
import Derived.Test.YtoekcfbjdcibpaaGreatDoorJA
namespace Go.Proofs.YtoekcfbjdcibpaaGreatDoor
open Go.RowKit Go.Lib
set_option linter.unusedVariables false

/-- A register, as the document's values: of none the number is not told. -/
structure RegIs (s : Str) (v : Value) : Prop where
  ex : ∃ n : Int, v = .tuple #[.int .i64 n, .bool (regD s).isSome] ∧ ∀ m, regD s = some m → n = m
set_option maxHeartbeats 1000000 in
theorem rreg_any (s : ByteArray) (hs : s.size ≤ 9223372036854775807) (w : World) :
    Calls Tryz.prog 38 #[.string s] w fun e w' => (∃ v, e = .returned v ∧ RegIs s.data.toList v) ∧ w' = w := by
  have hl : s.data.toList.length = s.size := by simp
  by_cases h2 : s.size < 2
  · have t0 : ((s.size : Int) < 2) := by omega
    have HN : Hid (regD s.data.toList = none) := hide (by unfold regD; rw [if_pos (.inl (by omega))])
    go_enter Tryz.func38, Tryz.ntmps38
    go_wp2
    go_ret2
    exact ⟨⟨_, rfl, ⟨_, by rw [HN.out]; rfl, fun m h => by rw [HN.out] at h; cases h⟩⟩, rfl⟩
  · have t0 : decide ((s.size : Int) < 2) = false := decide_eq_false (by omega)
    have h0 : 0 < s.size := by omega
    have hh := head_at s h0
    have e2 : (0 : Int) < (s.size : Int) := by omega
    have e3 : (1 : Int) ≤ (s.size : Int) := by omega
    by_cases hx : s[0] = 120
    · have t1 : (((s[0].toNat : Nat) : Int) != 120) = false := by rw [hx]; rfl
      have HR : Hid (regD s.data.toList = match numberL s.data.toList.tail with | some n => if 0 ≤ n then some n else none | none => none) := hide (by
        have hno : ¬ (s.data.toList.length < 2 ∨ s.data.toList.head? ≠ some 120) := by
          rintro (h | h)
          · omega
          · rw [hh, hx] at h; exact h rfl
        unfold regD
        rw [if_neg hno]
        rfl)
      have HM := hide (rnum_any (s.extract 1 s.size) (by simp; omega) w)
      rw [tail_at] at HM
      unfold numV at HM
      clear hh hx
      cases hn : numberL s.data.toList.tail with
      | none =>
        rw [hn] at HM HR
        simp only [Option.getD_none, Option.isSome_none] at HM
        go_enter Tryz.func38, Tryz.ntmps38
        go_wp2_with (go_at_call 39; refine HM.out.mono ?_; rintro e w' ⟨rfl, rfl⟩)
        go_ret2
        exact ⟨⟨_, rfl, ⟨_, by rw [HR.out]; rfl, fun m h => by rw [HR.out] at h; cases h⟩⟩, rfl⟩
      | some n =>
        rw [hn] at HM HR
        simp only [Option.getD_some, Option.isSome_some] at HM
        by_cases hp : 0 ≤ n
        · have HR2 : Hid (regD s.data.toList = some n) := hide (by rw [HR.out]; simp [hp])
          go_enter Tryz.func38, Tryz.ntmps38
          go_wp2_with (go_at_call 39; refine HM.out.mono ?_; rintro e w' ⟨rfl, rfl⟩)
          go_ret2
          exact ⟨⟨_, rfl, ⟨_, by rw [HR2.out]; rfl, fun m h => by rw [HR2.out] at h; injection h⟩⟩, rfl⟩
        · have HR2 : Hid (regD s.data.toList = none) := hide (by rw [HR.out]; simp [hp])
          have tn : decide (n ≥ 0) = false := decide_eq_false (by omega)
          have tn' : decide (0 ≤ n) = false := decide_eq_false hp
          go_enter Tryz.func38, Tryz.ntmps38
          go_wp2_with (go_at_call 39; refine HM.out.mono ?_; rintro e w' ⟨rfl, rfl⟩)
          go_ret2
          exact ⟨⟨_, rfl, ⟨_, by rw [HR2.out]; rfl, fun m h => by rw [HR2.out] at h; cases h⟩⟩, rfl⟩
    · have t1 : (((s[0].toNat : Nat) : Int) != 120) = true := by
        rw [bne_iff_ne]; intro e
        exact hx (UInt8.toNat_inj.1 (by (show s[0].toNat = 120); omega))
      have HN : Hid (regD s.data.toList = none) := hide (by
        unfold regD
        rw [if_pos (.inr (by rw [hh]; intro e; injection e with e; exact hx e))])
      clear hh hx
      go_enter Tryz.func38, Tryz.ntmps38
      go_wp2
      go_ret2
      exact ⟨⟨_, rfl, ⟨_, by rw [HN.out]; rfl, fun m h => by rw [HN.out] at h; cases h⟩⟩, rfl⟩
end Go.Proofs.YtoekcfbjdcibpaaGreatDoor
