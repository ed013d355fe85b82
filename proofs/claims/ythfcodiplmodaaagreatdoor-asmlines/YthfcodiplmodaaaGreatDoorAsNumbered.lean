/-
  What asm.numbered answers.
-/
import Derived.Test.YthfcodiplmodaaaGreatDoorAsParse
import Derived.Test.YthfcodiplmodaaaGreatDoorAsLabel
import Derived.Maps.OwnSet
import Derived.Maps.OwnOps
import Derived.Maps.Own
import Derived.Maps.Views
import Derived.StringKeys
namespace Go.Proofs.YthfcodiplmodaaaGreatDoor
open Go.RowKit
set_option linter.unusedVariables false

/-- Labels and their places, each name once. -/
abbrev Labs := List (Str × Nat)
def lookL (m : Labs) (k : Str) : Option Nat := (m.find? (fun p => p.1 == k)).map (·.2)

/-- A map of one's own that holds just these labels. -/
def LabAt (b : Nat) (m : Labs) (W : World) : Prop := ∃ D : DataW Unit, W.ownsMap Tryz.prog 9 (plainElem Tryz.prog 3) b m.length D ∧ Maps.IsMap D ∧
  ∀ k : Str, Maps.has D (.string k) = (lookL m k).isSome ∧ ∀ p, lookL m k = some p → D.atKey (.string k) (.lit (.int .i64 0)) = .lit (.int .i64 (p : Int))
theorem LabAt.keeps {b : Nat} {m : Labs} {W W' : World} (h : LabAt b m W) (hb : Below W.heap.size W W') : LabAt b m W' := by
  obtain ⟨D, h1, h2⟩ := h
  exact ⟨D, h1.kept (row := none) ⟨hb.os, hb.tape, hb.output, hb.size, fun k hk _ => hb.block k hk⟩ (by simp), h2⟩

def lastL (t : Str) : Nat := (Lib.lastIndexByte ⟨t.toArray⟩ 32 + 1).toNat
/-- A line with the number that its label means. -/
def numberedL (t : Str) (at' : Int) (m : Labs) : Str :=
  match findS (Lib.cut t [32]).1 with
  | none => t
  | some op => if (kindN op == 66 || kindN op == 74) = true then (match lookL m (t.drop (lastL t)) with | none => t | some p => t.take (lastL t) ++ Lib.itoa ((p : Int) - at')) else t

theorem last_spec (t : Str) : Lib.lastIndexByte ⟨t.toArray⟩ 32 + 1 = (lastL t : Nat) ∧ lastL t ≤ t.length ∧ -1 ≤ Lib.lastIndexByte ⟨t.toArray⟩ 32 := by
  have hs : (ByteArray.mk t.toArray).size = t.length := by simp [ByteArray.size]
  have := Lib.lastIdx_spec ⟨t.toArray⟩ 32 t.length
  unfold lastL Lib.lastIndexByte
  rw [hs]
  rcases this with ⟨h, _⟩ | ⟨i, hi, h, _⟩ <;> rw [h] <;> omega

set_option maxHeartbeats 2000000 in
set_option maxRecDepth 100000 in
theorem numbered_none (t : Str) (ht : t.length ≤ 70000) (h : findS (Lib.cut t [32]).1 = none) (at' : Int) (mv : Value) (w : World) (hA : AsAt w) :
    Calls Tryz.prog 78 #[.string ⟨t.toArray⟩, .int .i64 at', mv] w fun e w' => e = .returned (.string ⟨t.toArray⟩) ∧ Below w.heap.size w w' := by
  have HC := hide (cut_any t (by omega) 32)
  have HF := hide (fun w h' => find_all ⟨(Lib.cut t [32]).1.toArray⟩ w h')
  have e1 : fndOp ⟨(Lib.cut t [32]).1.toArray⟩ = none := h
  simp only [fndK, fndN, e1, errno_pos 6 (by decide)] at HF
  have HA := hide hA
  clear hA e1 h
  generalize (Lib.cut t [32]).1 = nm at *
  generalize (Lib.cut t [32]).2.1 = rest at *
  generalize (Lib.cut t [32]).2.2 = b at *
  go_enter Tryz.func78, Tryz.ntmps78
  go_wp2_with (first | (go_at_call 33; refine (HC.out _ HA.out.len).mono ?_; rintro e w2 ⟨rfl, hx2⟩; have HB2 := hide hx2; clear hx2) | (go_at_call 34; refine (HF.out _ (HA.out.below HB2.out).tabs).mono ?_; rintro e w3 ⟨rfl, rfl⟩))
  go_ret
  exact ⟨rfl, HB2.out⟩

set_option maxHeartbeats 2000000 in
set_option maxRecDepth 100000 in
theorem numbered_not (t : Str) (ht : t.length ≤ 70000) (op : Nat) (h : findS (Lib.cut t [32]).1 = some op) (hk : (kindN op == 66 || kindN op == 74) = false) (at' : Int) (mv : Value) (w : World) (hA : AsAt w) :
    Calls Tryz.prog 78 #[.string ⟨t.toArray⟩, .int .i64 at', mv] w fun e w' => e = .returned (.string ⟨t.toArray⟩) ∧ Below w.heap.size w w' := by
  have HC := hide (cut_any t (by omega) 32)
  have HF := hide (fun w h' => find_all ⟨(Lib.cut t [32]).1.toArray⟩ w h')
  have e1 : fndOp ⟨(Lib.cut t [32]).1.toArray⟩ = some op := h
  simp only [fndK, fndN, e1, errno_zero] at HF
  have HTk := hide (takes_any op (fndOp_some e1).1)
  rw [hk] at HTk
  have HA := hide hA
  clear hA e1 h hk
  generalize (Lib.cut t [32]).1 = nm at *
  generalize (Lib.cut t [32]).2.1 = rest at *
  generalize (Lib.cut t [32]).2.2 = b at *
  go_enter Tryz.func78, Tryz.ntmps78
  go_wp2_with (first | (go_at_call 33; refine (HC.out _ HA.out.len).mono ?_; rintro e w2 ⟨rfl, hx2⟩; have HB2 := hide hx2; clear hx2) | (go_at_call 34; refine (HF.out _ (HA.out.below HB2.out).tabs).mono ?_; rintro e w3 ⟨rfl, rfl⟩) | (go_at_call 110; refine (HTk.out _ (HA.out.below HB2.out).tabs).mono ?_; rintro e w4 ⟨rfl, rfl⟩))
  go_ret
  exact ⟨rfl, HB2.out⟩

set_option maxHeartbeats 4000000 in
set_option maxRecDepth 100000 in
theorem numbered_op (t : Str) (ht : t.length ≤ 70000) (op : Nat) (h : findS (Lib.cut t [32]).1 = some op) (hk : (kindN op == 66 || kindN op == 74) = true) (at' : Nat) (hat : at' ≤ 1000000) (b : Nat) (m : Labs) (hm : ∀ k p, lookL m k = some p → p ≤ 1000000) (w : World) (hA : AsAt w) (hL : LabAt b m w) :
    Calls Tryz.prog 78 #[.string ⟨t.toArray⟩, .int .i64 at', .map (some b)] w fun e w' => e = .returned (.string ⟨(match lookL m (t.drop (lastL t)) with | none => t | some p => t.take (lastL t) ++ Lib.itoa ((p : Int) - at')).toArray⟩) ∧ Below w.heap.size w w' := by
  have HC := hide (cut_any t (by omega) 32)
  have HF := hide (fun w h' => find_all ⟨(Lib.cut t [32]).1.toArray⟩ w h')
  have e1 : fndOp ⟨(Lib.cut t [32]).1.toArray⟩ = some op := h
  simp only [fndK, fndN, e1, errno_zero] at HF
  have HTk := hide (takes_any op (fndOp_some e1).1)
  rw [hk] at HTk
  have hts : (ByteArray.mk t.toArray).size = t.length := by simp [ByteArray.size]
  have HLI := hide (fun w => Tryz.strings_LastIndexByte ⟨t.toArray⟩ 32 (by omega) w)
  obtain ⟨hl1, hl2, hl3⟩ := last_spec t
  obtain ⟨z, hz⟩ : ∃ z, Lib.lastIndexByte ⟨t.toArray⟩ 32 = z := ⟨_, rfl⟩
  rw [hz] at HLI hl1 hl3
  have HE : Hid ((ByteArray.mk t.toArray).extract (lastL t) (ByteArray.mk t.toArray).size = ⟨(t.drop (lastL t)).toArray⟩ ∧ (ByteArray.mk t.toArray).extract 0 (lastL t) = ⟨(t.take (lastL t)).toArray⟩) := ⟨extract_str _ _, by rw [extract_mid]; rfl⟩
  have HA := hide hA
  obtain ⟨D, hown, him, hD⟩ := hL
  have HOwn := hide (fun W' (hb : Below w.heap.size w W') => hown.kept (row := none) ⟨hb.os, hb.tape, hb.output, hb.size, fun k hk _ => hb.block k hk⟩ (by simp))
  have HD := hide (hD (t.drop (lastL t)))
  have HMm := hide (hm (t.drop (lastL t)))
  clear hA e1 h hk hm hz hown him hD
  generalize (Lib.cut t [32]).1 = nm at *
  generalize (Lib.cut t [32]).2.1 = rest at *
  generalize (Lib.cut t [32]).2.2 = bb at *
  generalize lastL t = last at *
  obtain rfl : z = (last : Int) - 1 := by omega
  have HKey := hide (show keyOf Tryz.prog 9 (.string ((ByteArray.mk t.toArray).extract last t.length)) = some (.string (t.drop last)) from by
    have e := HE.out.1
    rw [hts] at e
    rw [Go.WideMaps.keyOf_string_mk Tryz.underlying9 (by rw [e]; unfold maxLen; simp [ByteArray.size]; omega), e])
  cases hlk : lookL m (t.drop last) with
  | none =>
    have hhas : Maps.has D (.string (t.drop last)) = false := by rw [HD.out.1, hlk]; rfl
    have HCv : Hid (∀ c : Int, D.atKey (.string (t.drop last)) (.lit (.int .i64 0)) = .lit (.int .i64 c) → 0 = c) := hide fun c hc => by
      rw [Maps.atKey_of_not_has hhas] at hc
      injection hc with h; injection h
    clear HD HMm hlk
    generalize t.drop last = key at *
    go_enter Tryz.func78, Tryz.ntmps78
    go_wp2_with (first | (go_at_call 33; refine (HC.out _ HA.out.len).mono ?_; rintro e w2 ⟨rfl, hx2⟩; have HB2 := hide hx2; clear hx2) | (go_at_call 34; refine (HF.out _ (HA.out.below HB2.out).tabs).mono ?_; rintro e w3 ⟨rfl, rfl⟩) | (go_at_call 110; refine (HTk.out _ (HA.out.below HB2.out).tabs).mono ?_; rintro e w4 ⟨rfl, rfl⟩) | (go_at_call 111; refine (HLI.out _).mono ?_; rintro e w5 ⟨rfl, rfl⟩) | (at_lookup; refine wpList_lookup_own_ok_int _ rfl _ _ 83 rfl 9 3 .i64 (Maps.string_keyed Tryz.underlying9) Tryz.underlying83 Tryz.underlying3 (Tryz.zeroValue3 _) b m.length D rfl (HOwn.out _ HB2.out) _ _ rfl HKey.out ?_; intro c hatc hwc; obtain rfl := HCv.out c hatc))
    go_ret
    exact ⟨rfl, HB2.out⟩
  | some p =>
    have hhas : Maps.has D (.string (t.drop last)) = true := by rw [HD.out.1, hlk]; rfl
    have HCv : Hid (∀ c : Int, D.atKey (.string (t.drop last)) (.lit (.int .i64 0)) = .lit (.int .i64 c) → (p : Int) = c) := hide fun c hc => by
      rw [HD.out.2 p hlk] at hc
      injection hc with h; injection h
    have hp := HMm.out p hlk
    have HI := hide (itoa_any ((p : Int) - at') (by omega) (by omega))
    have hil := Lib.itoa_length_le ((p : Int) - at') (by omega) (by omega)
    have HFin := hide (show (ByteArray.mk t.toArray).extract 0 last ++ ⟨(Lib.itoa ((p : Int) - at')).toArray⟩ = ⟨(t.take last ++ Lib.itoa ((p : Int) - at')).toArray⟩ from by rw [HE.out.2, ba_append])
    clear HD HMm hlk
    generalize t.drop last = key at *
    obtain ⟨it, hit⟩ : ∃ it, Lib.itoa ((p : Int) - at') = it := ⟨_, rfl⟩
    rw [hit] at HI hil HFin
    have HIt := hide hit
    clear hit
    rw [show (p : Int) - at' = IntKind.i64.wrap ((p : Int) - at') from by rw [IntKind.wrap_i64]; omega] at HI
    go_enter Tryz.func78, Tryz.ntmps78
    go_wp2_with (first | (go_at_call 33; refine (HC.out _ HA.out.len).mono ?_; rintro e w2 ⟨rfl, hx2⟩; have HB2 := hide hx2; clear hx2) | (go_at_call 34; refine (HF.out _ (HA.out.below HB2.out).tabs).mono ?_; rintro e w3 ⟨rfl, rfl⟩) | (go_at_call 110; refine (HTk.out _ (HA.out.below HB2.out).tabs).mono ?_; rintro e w4 ⟨rfl, rfl⟩) | (go_at_call 111; refine (HLI.out _).mono ?_; rintro e w5 ⟨rfl, rfl⟩) | (at_lookup; refine wpList_lookup_own_ok_int _ rfl _ _ 83 rfl 9 3 .i64 (Maps.string_keyed Tryz.underlying9) Tryz.underlying83 Tryz.underlying3 (Tryz.zeroValue3 _) b m.length D rfl (HOwn.out _ HB2.out) _ _ rfl HKey.out ?_; intro c hatc hwc; obtain rfl := HCv.out c hatc))
    go_region_with (first | (go_at_call 59; refine (HI.out _ (HA.out.below HB2.out.drew).pow).mono ?_; rintro e w6 ⟨rfl, hx6⟩; have HB6 := hide (below_of_drew hx6); clear hx6))
    all_goals
      go_wp2
      go_ret
      exact ⟨ret_str (by rw [HIt.out]; exact HFin.out), HB2.out.trans (HB6.out.mono HB2.out.size)⟩

theorem numbered_any (t : Str) (ht : t.length ≤ 70000) (at' : Nat) (hat : at' ≤ 1000000) (b : Nat) (m : Labs) (hm : ∀ k p, lookL m k = some p → p ≤ 1000000) (w : World) (hA : AsAt w) (hL : LabAt b m w) :
    Calls Tryz.prog 78 #[.string ⟨t.toArray⟩, .int .i64 at', .map (some b)] w fun e w' => e = .returned (.string ⟨(numberedL t at' m).toArray⟩) ∧ Below w.heap.size w w' := by
  unfold numberedL
  cases h : findS (Lib.cut t [32]).1 with
  | none => exact numbered_none t ht h _ _ w hA
  | some op =>
    simp only
    cases hk : (kindN op == 66 || kindN op == 74) with
    | false => exact numbered_not t ht op h hk _ _ w hA
    | true => exact numbered_op t ht op h hk at' hat b m hm w hA hL
end Go.Proofs.YthfcodiplmodaaaGreatDoor
