/-
  What asm.wordOf answers.
-/
import Derived.Test.YthfcodiplmodaaaGreatDoorAsNumbered
import Derived.Test.YthfcodiplmodaaaGreatDoorDigits
namespace Go.Proofs.YthfcodiplmodaaaGreatDoor
open Go.RowKit
set_option linter.unusedVariables false

def dotWord : Str := [46, 119, 111, 114, 100, 32]
def wordV (t : Str) (at' : Int) (m : Labs) : Nat := if Lib.hasPrefix t dotWord = true then parseV ⟨(t.drop 6).toArray⟩ else (match parseL (numberedL t at' m) with | none => 0 | some i => encW i)
def wordE (t : Str) (at' : Int) (m : Labs) : Int := if Lib.hasPrefix t dotWord = true then parseE ⟨(t.drop 6).toArray⟩ else parseN (numberedL t at' m)
theorem wordV_lt (t : Str) (at' : Int) (m : Labs) : wordV t at' m < 4294967296 := by
  unfold wordV
  split
  · unfold parseV
    split
    · rename_i h
      have := valN_lt _ (ByteArray.mk (t.drop 6).toArray).data.toList rfl
      have hl : (ByteArray.mk (t.drop 6).toArray).data.toList.length ≤ 8 := by rw [← Lib.size_eq]; exact h.2.1
      have h2 : 16 ^ (ByteArray.mk (t.drop 6).toArray).data.toList.length ≤ 16 ^ 8 := Nat.pow_le_pow_right (by decide) hl
      have h3 : (16 : Nat) ^ 8 = 4294967296 := rfl
      omega
    · decide
  · split
    · decide
    · exact encW_lt _

theorem numbered_len (t : Str) (ht : t.length ≤ 70000) (at' : Nat) (hat : at' ≤ 1000000) (m : Labs) (hm : ∀ k p, lookL m k = some p → p ≤ 1000000) : (numberedL t at' m).length ≤ 100000 := by
  unfold numberedL
  split
  · omega
  · split
    · split
      · omega
      · rename_i p hp
        have := hm _ p hp
        have := Lib.itoa_length_le ((p : Int) - at') (by omega) (by omega)
        rw [List.length_append, List.length_take]
        omega
    · omega

set_option maxHeartbeats 2000000 in
set_option maxRecDepth 100000 in
theorem word_any (t : Str) (ht : t.length ≤ 70000) (at' : Nat) (hat : at' ≤ 1000000) (b : Nat) (m : Labs) (hm : ∀ k p, lookL m k = some p → p ≤ 1000000) (w : World) (hA : AsAt w) (hL : LabAt b m w) :
    Calls Tryz.prog 46 #[.string ⟨t.toArray⟩, .int .i64 at', .map (some b)] w fun e w' => e = .returned (.tuple #[.int .u32 (wordV t at' m : Nat), errno (wordE t at' m)]) ∧ Below w.heap.size w w' := by
  have HC := hide (fun w => Tryz.strings_CutPrefix ⟨t.toArray⟩ ⟨#[46, 119, 111, 114, 100, 32]⟩ w)
  have hd : (ByteArray.mk t.toArray).data.toList = t := rfl
  have hd2 : (ByteArray.mk #[46, 119, 111, 114, 100, 32]).data.toList = dotWord := rfl
  rw [hd, hd2] at HC
  clear hd hd2
  have HA := hide hA
  have HN := hide (numbered_any t ht at' hat b m hm)
  have HLb := hide hL
  have HP := hide (parse_all (numberedL t at' m) (numbered_len t ht at' hat m hm))
  clear hA hL
  unfold wordV wordE
  cases hp : Lib.hasPrefix t dotWord with
  | true =>
    rw [show Lib.trimPrefix t dotWord = t.drop 6 by unfold Lib.trimPrefix; rw [hp]; rfl, hp] at HC
    have HW := hide (fun w => parse_any ⟨(t.drop 6).toArray⟩ (by simp [ByteArray.size]; omega) w)
    simp only [if_true]
    have e : ∀ c, errV c = errno c := fun _ => rfl
    rw [e] at HW
    generalize errno (parseE ⟨(t.drop 6).toArray⟩) = er at *
    generalize parseV ⟨(t.drop 6).toArray⟩ = pv at *
    generalize t.drop 6 = dr at *
    clear HN HP HLb
    go_enter Tryz.func46, Tryz.ntmps46
    go_wp2_with (first | (go_at_call 76; refine (HC.out _).mono ?_; rintro e w2 ⟨rfl, rfl⟩) | (go_at_call 77; refine (HW.out _).mono ?_; rintro e w3 ⟨rfl, rfl⟩))
    go_ret2
    exact ⟨rfl, Below.refl _ _⟩
  | false =>
    rw [hp] at HC
    simp only [Bool.false_eq_true, if_false]
    unfold parseI parseN at HP
    unfold parseN
    generalize numberedL t at' m = nu at *
    generalize Lib.trimPrefix t dotWord = tp at *
    cases hpl : parseL nu with
    | none =>
      rw [hpl] at HP
      simp only [Option.getD_none, errno_pos 3 (by decide), I6.cells, noI] at HP ⊢
      go_enter Tryz.func46, Tryz.ntmps46
      go_wp2_with (first | (go_at_call 76; refine (HC.out _).mono ?_; rintro e w2 ⟨rfl, rfl⟩) | (go_at_call 78; refine (HN.out _ HA.out HLb.out).mono ?_; rintro e w3 ⟨rfl, hx3⟩; have HB3 := hide hx3; clear hx3) | (go_at_call 13; refine (HP.out _ (HA.out.below HB3.out)).mono ?_; rintro e w4 ⟨rfl, hx4⟩; have HB4 := hide hx4; clear hx4))
      go_ret2
      have hb := HB3.out.trans (HB4.out.mono HB3.out.size)
      exact ⟨rfl, hb.trans ((below_box w4 _).mono hb.size)⟩
    | some i =>
      have hok := (parse_some hpl).1
      rw [hpl] at HP
      simp only [Option.getD_some, errno_zero] at HP ⊢
      have HE := hide (encode_all i)
      rw [show encN i = 0 by unfold encN; rw [hok]; rfl, errno_zero] at HE
      generalize encW i = ew at *
      clear hpl hok
      obtain ⟨o, rd, rs1, rs2, imm, csr⟩ := i
      simp only [I6.cells] at HP HE
      go_enter Tryz.func46, Tryz.ntmps46
      go_wp2_with (first | (go_at_call 76; refine (HC.out _).mono ?_; rintro e w2 ⟨rfl, rfl⟩) | (go_at_call 78; refine (HN.out _ HA.out HLb.out).mono ?_; rintro e w3 ⟨rfl, hx3⟩; have HB3 := hide hx3; clear hx3) | (go_at_call 13; refine (HP.out _ (HA.out.below HB3.out)).mono ?_; rintro e w4 ⟨rfl, hx4⟩; have HB4 := hide (HB3.out.trans (hx4.mono HB3.out.size)); clear hx4) | (go_at_call 18; refine (HE.out _ (HA.out.below (HB4.out.trans ((below_box w4 _).mono HB4.out.size))).tabs).mono ?_; rintro e w5 ⟨rfl, hx5⟩; have HB5 := hide (HB4.out.trans ((below_new hx5).mono HB4.out.size)); clear hx5))
      go_ret2
      exact ⟨rfl, HB5.out⟩
end Go.Proofs.YthfcodiplmodaaaGreatDoor
