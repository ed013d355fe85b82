/-
  slices.IndexFunc and slices.DeleteFunc over a program's lines.
-/
import Derived.Test.YtoekcfbjdcibpaaGreatDoorAsTextW
import Derived.Test.YtoekcfbjdcibpaaGreatDoorShelf2
import Derived.Test.YtoekcfbjdcibpaaGreatDoorAsParse
import Derived.Maps.OwnSet
import Derived.Maps.OwnOps
import Derived.Maps.Own
import Derived.Maps.Views
import Derived.StringKeys
import Derived.Deep.QuietTactic
import Derived.BigQuiet
import Derived.Lib.SliceRun
namespace Go.Proofs.YtoekcfbjdcibpaaGreatDoor
open Go.RowKit
set_option linter.unusedVariables false

def isLow (c : UInt8) : Bool := decide (97 ≤ c.toNat ∧ c.toNat ≤ 122)
/-- The name that a label line gives. -/
def labelL (t : Str) : Str :=
  if Lib.hasSuffix t [58] = true ∧ (Lib.trimSuffix t [58]).length ≤ 16 ∧ (Lib.trimSuffix t [58]).all isLow = true then Lib.trimSuffix t [58] else []

set_option maxHeartbeats 2000000 in
set_option maxRecDepth 100000 in
theorem label_any (t : Str) (ht : t.length ≤ 100000) (w : World) :
    Calls Tryz.prog 45 #[.string ⟨t.toArray⟩] w fun e w' => e = .returned (.string ⟨(labelL t).toArray⟩) ∧ w' = w := by
  have HC := hide (fun w => Tryz.strings_CutSuffix ⟨t.toArray⟩ ⟨#[58]⟩ w (by simp [ByteArray.size]; omega))
  have hd : (ByteArray.mk t.toArray).data.toList = t := rfl
  have hd2 : (ByteArray.mk #[58]).data.toList = [58] := rfl
  rw [hd, hd2] at HC
  clear hd hd2
  have HL := hide (show labelL t = if Lib.hasSuffix t [58] = true ∧ (Lib.trimSuffix t [58]).length ≤ 16 ∧ (Lib.trimSuffix t [58]).all isLow = true then Lib.trimSuffix t [58] else [] from rfl)
  generalize Lib.hasSuffix t [58] = b at *
  generalize Lib.trimSuffix t [58] = n at *
  cases b with
  | false =>
    go_enter Tryz.func45, Tryz.ntmps45
    go_wp2_with (go_at_call 75; refine (HC.out _).mono ?_; rintro e w2 ⟨rfl, rfl⟩)
    go_ret
    exact ⟨ret_str (by rw [HL.out]; simp), rfl⟩
  | true =>
    by_cases h16 : n.length ≤ 16
    · have hnl : ¬ (16 : Int) < (n.length : Int) := by omega
      go_enter Tryz.func45, Tryz.ntmps45
      go_wp2_with (go_at_call 75; refine (HC.out _).mono ?_; rintro e w2 ⟨rfl, rfl⟩)
      go_loop [20] (fun iv => ∃ k : Nat, k ≤ n.length ∧ iv = .int .i64 k ∧ (n.take k).all isLow = true) (fun iv => n.length - (intOf iv).toNat)
      case atStart => exact ⟨0, Nat.zero_le _, rfl, rfl⟩
      case round =>
        obtain ⟨k, hk, rfl, hal⟩ := hrel
        have HAl := hide hal
        clear hal
        by_cases hlt : k < n.length
        · obtain ⟨c, hc⟩ : ∃ c, n[k]? = some c := ⟨_, List.getElem?_eq_getElem hlt⟩
          have hix := run_at n k c hc
          have HCm := hide (List.mem_of_getElem? hc)
          have HTk := hide (show n.take (k + 1) = n.take k ++ [c] by rw [List.take_add_one, hc]; rfl)
          clear hc
          by_cases h97 : (c.toNat : Int) < 97
          · go_wp2
            go_ret
            refine ⟨ret_str ?_, rfl⟩
            rw [HL.out, if_neg]
            rintro ⟨_, _, h⟩
            have := List.all_eq_true.1 h c HCm.out
            simp [isLow] at this
            omega
          · by_cases h122 : 122 < (c.toNat : Int)
            · go_wp2
              go_ret
              refine ⟨ret_str ?_, rfl⟩
              rw [HL.out, if_neg]
              rintro ⟨_, _, h⟩
              have := List.all_eq_true.1 h c HCm.out
              simp [isLow] at this
              omega
            · go_wp2
              go_round
              case rel => exact ⟨k + 1, by omega, by go_num, by rw [HTk.out, List.all_append, HAl.out]; simp [isLow]; omega⟩
              case measure => simp [intOf]; omega
        · obtain rfl : k = n.length := by omega
          go_wp2
          go_ret
          refine ⟨ret_str ?_, rfl⟩
          have := HAl.out
          rw [List.take_length] at this
          rw [HL.out, if_pos ⟨by trivial, h16, this⟩]
    · have hnl : (16 : Int) < (n.length : Int) := by omega
      go_enter Tryz.func45, Tryz.ntmps45
      go_wp2_with (go_at_call 75; refine (HC.out _).mono ?_; rintro e w2 ⟨rfl, rfl⟩)
      go_ret
      exact ⟨ret_str (by rw [HL.out]; simp [h16]), rfl⟩

theorem takes_any (op : Nat) (hop : op < 57) (w : World) (hT : TabsAt w) :
    Calls Tryz.prog 110 #[.int .i64 op] w fun e w' => e = .returned (.bool (kindN op == 66 || kindN op == 74)) ∧ w' = w := by
  have HK := hide (kind_yes op hop w hT.1.1)
  have hk := kindN_is op hop
  clear hT
  generalize kindN op = k at *
  rcases hk with rfl | rfl | rfl | rfl | rfl | rfl | rfl | rfl | rfl | rfl | rfl
  all_goals
    go_enter Tryz.func110, Tryz.ntmps110
    go_wp2_with (go_at_call 57; refine HK.out.mono ?_; rintro e w2 ⟨rfl, rfl⟩)
    go_ret
    exact ⟨rfl, rfl⟩
end Go.Proofs.YtoekcfbjdcibpaaGreatDoor
namespace Go.Proofs.YtoekcfbjdcibpaaGreatDoor
open Go.RowKit
set_option linter.unusedVariables false

/-- Labels and their places, each name once. -/
abbrev Labs := List (Str × Nat)
def lookL (m : Labs) (k : Str) : Option Nat := (m.find? (fun p => p.1 == k)).map (·.2)

/-- A map of one's own that holds just these labels. -/
def LabAt (b : Nat) (m : Labs) (W : World) : Prop := ∃ D : DataW Unit, W.ownsMap Tryz.prog 9 (plainElem Tryz.prog 3) b m.length D ∧ Maps.IsMap D ∧
  ∀ k : Str, Maps.has D (.string k) = (lookL m k).isSome ∧ ∀ p, lookL m k = some p → D.atKey (.string k) (.lit (.int .i64 0)) = .lit (.int .i64 (p : Int))
theorem LabAt.keeps {b : Nat} {m : Labs} {W W' : World} (h : LabAt b m W) (hb : Below W.heap.size W W') : LabAt b m W' := by
  obtain ⟨D, h1, h2⟩ := h
  exact ⟨D, h1.kept (row := none) ⟨hb.os, hb.tape, hb.output, hb.size, fun k hk _ => hb.block k hk⟩ (by simp), h2⟩

def lastL (t : Str) : Nat := (Lib.lastIndexByte ⟨t.toArray⟩ 32 + 1).toNat
/-- A line with the number that its label means. -/
def numberedL (t : Str) (at' : Int) (m : Labs) : Str :=
  match findS (Lib.cut t [32]).1 with
  | none => t
  | some op => if (kindN op == 66 || kindN op == 74) = true then (match lookL m (t.drop (lastL t)) with | none => t | some p => t.take (lastL t) ++ Lib.itoa ((p : Int) - at')) else t

theorem last_spec (t : Str) : Lib.lastIndexByte ⟨t.toArray⟩ 32 + 1 = (lastL t : Nat) ∧ lastL t ≤ t.length ∧ -1 ≤ Lib.lastIndexByte ⟨t.toArray⟩ 32 := by
  have hs : (ByteArray.mk t.toArray).size = t.length := by simp [ByteArray.size]
  have := Lib.lastIdx_spec ⟨t.toArray⟩ 32 t.length
  unfold lastL Lib.lastIndexByte
  rw [hs]
  rcases this with ⟨h, _⟩ | ⟨i, hi, h, _⟩ <;> rw [h] <;> omega

set_option maxHeartbeats 2000000 in
set_option maxRecDepth 100000 in
theorem numbered_none (t : Str) (ht : t.length ≤ 70000) (h : findS (Lib.cut t [32]).1 = none) (at' : Int) (mv : Value) (w : World) (hA : AsAt w) :
    Calls Tryz.prog 78 #[.string ⟨t.toArray⟩, .int .i64 at', mv] w fun e w' => e = .returned (.string ⟨t.toArray⟩) ∧ Below w.heap.size w w' := by
  have HC := hide (cut_any t (by omega) 32)
  have HF := hide (fun w h' => find_all ⟨(Lib.cut t [32]).1.toArray⟩ w h')
  have e1 : fndOp ⟨(Lib.cut t [32]).1.toArray⟩ = none := h
  simp only [fndK, fndN, e1, errno_pos 6 (by decide)] at HF
  have HA := hide hA
  clear hA e1 h
  generalize (Lib.cut t [32]).1 = nm at *
  generalize (Lib.cut t [32]).2.1 = rest at *
  generalize (Lib.cut t [32]).2.2 = b at *
  go_enter Tryz.func78, Tryz.ntmps78
  go_wp2_with (first | (go_at_call 33; refine (HC.out _ HA.out.len).mono ?_; rintro e w2 ⟨rfl, hx2⟩; have HB2 := hide hx2; clear hx2) | (go_at_call 34; refine (HF.out _ (HA.out.below HB2.out).tabs).mono ?_; rintro e w3 ⟨rfl, rfl⟩))
  go_ret
  exact ⟨rfl, HB2.out⟩

set_option maxHeartbeats 2000000 in
set_option maxRecDepth 100000 in
theorem numbered_not (t : Str) (ht : t.length ≤ 70000) (op : Nat) (h : findS (Lib.cut t [32]).1 = some op) (hk : (kindN op == 66 || kindN op == 74) = false) (at' : Int) (mv : Value) (w : World) (hA : AsAt w) :
    Calls Tryz.prog 78 #[.string ⟨t.toArray⟩, .int .i64 at', mv] w fun e w' => e = .returned (.string ⟨t.toArray⟩) ∧ Below w.heap.size w w' := by
  have HC := hide (cut_any t (by omega) 32)
  have HF := hide (fun w h' => find_all ⟨(Lib.cut t [32]).1.toArray⟩ w h')
  have e1 : fndOp ⟨(Lib.cut t [32]).1.toArray⟩ = some op := h
  simp only [fndK, fndN, e1, errno_zero] at HF
  have HTk := hide (takes_any op (fndOp_some e1).1)
  rw [hk] at HTk
  have HA := hide hA
  clear hA e1 h hk
  generalize (Lib.cut t [32]).1 = nm at *
  generalize (Lib.cut t [32]).2.1 = rest at *
  generalize (Lib.cut t [32]).2.2 = b at *
  go_enter Tryz.func78, Tryz.ntmps78
  go_wp2_with (first | (go_at_call 33; refine (HC.out _ HA.out.len).mono ?_; rintro e w2 ⟨rfl, hx2⟩; have HB2 := hide hx2; clear hx2) | (go_at_call 34; refine (HF.out _ (HA.out.below HB2.out).tabs).mono ?_; rintro e w3 ⟨rfl, rfl⟩) | (go_at_call 110; refine (HTk.out _ (HA.out.below HB2.out).tabs).mono ?_; rintro e w4 ⟨rfl, rfl⟩))
  go_ret
  exact ⟨rfl, HB2.out⟩

set_option maxHeartbeats 4000000 in
set_option maxRecDepth 100000 in
theorem numbered_op (t : Str) (ht : t.length ≤ 70000) (op : Nat) (h : findS (Lib.cut t [32]).1 = some op) (hk : (kindN op == 66 || kindN op == 74) = true) (at' : Nat) (hat : at' ≤ 1000000) (b : Nat) (m : Labs) (hm : ∀ k p, lookL m k = some p → p ≤ 1000000) (w : World) (hA : AsAt w) (hL : LabAt b m w) :
    Calls Tryz.prog 78 #[.string ⟨t.toArray⟩, .int .i64 at', .map (some b)] w fun e w' => e = .returned (.string ⟨(match lookL m (t.drop (lastL t)) with | none => t | some p => t.take (lastL t) ++ Lib.itoa ((p : Int) - at')).toArray⟩) ∧ Below w.heap.size w w' := by
  have HC := hide (cut_any t (by omega) 32)
  have HF := hide (fun w h' => find_all ⟨(Lib.cut t [32]).1.toArray⟩ w h')
  have e1 : fndOp ⟨(Lib.cut t [32]).1.toArray⟩ = some op := h
  simp only [fndK, fndN, e1, errno_zero] at HF
  have HTk := hide (takes_any op (fndOp_some e1).1)
  rw [hk] at HTk
  have hts : (ByteArray.mk t.toArray).size = t.length := by simp [ByteArray.size]
  have HLI := hide (fun w => Tryz.strings_LastIndexByte ⟨t.toArray⟩ 32 (by omega) w)
  obtain ⟨hl1, hl2, hl3⟩ := last_spec t
  obtain ⟨z, hz⟩ : ∃ z, Lib.lastIndexByte ⟨t.toArray⟩ 32 = z := ⟨_, rfl⟩
  rw [hz] at HLI hl1 hl3
  have HE : Hid ((ByteArray.mk t.toArray).extract (lastL t) (ByteArray.mk t.toArray).size = ⟨(t.drop (lastL t)).toArray⟩ ∧ (ByteArray.mk t.toArray).extract 0 (lastL t) = ⟨(t.take (lastL t)).toArray⟩) := ⟨extract_str _ _, by rw [extract_mid]; rfl⟩
  have HA := hide hA
  obtain ⟨D, hown, him, hD⟩ := hL
  have HOwn := hide (fun W' (hb : Below w.heap.size w W') => hown.kept (row := none) ⟨hb.os, hb.tape, hb.output, hb.size, fun k hk _ => hb.block k hk⟩ (by simp))
  have HD := hide (hD (t.drop (lastL t)))
  have HMm := hide (hm (t.drop (lastL t)))
  clear hA e1 h hk hm hz hown him hD
  generalize (Lib.cut t [32]).1 = nm at *
  generalize (Lib.cut t [32]).2.1 = rest at *
  generalize (Lib.cut t [32]).2.2 = bb at *
  generalize lastL t = last at *
  obtain rfl : z = (last : Int) - 1 := by omega
  have HKey := hide (show keyOf Tryz.prog 9 (.string ((ByteArray.mk t.toArray).extract last t.length)) = some (.string (t.drop last)) from by
    have e := HE.out.1
    rw [hts] at e
    rw [Go.WideMaps.keyOf_string_mk Tryz.underlying9 (by rw [e]; unfold maxLen; simp [ByteArray.size]; omega), e])
  cases hlk : lookL m (t.drop last) with
  | none =>
    have hhas : Maps.has D (.string (t.drop last)) = false := by rw [HD.out.1, hlk]; rfl
    have HCv : Hid (∀ c : Int, D.atKey (.string (t.drop last)) (.lit (.int .i64 0)) = .lit (.int .i64 c) → 0 = c) := hide fun c hc => by
      rw [Maps.atKey_of_not_has hhas] at hc
      injection hc with h; injection h
    clear HD HMm hlk
    generalize t.drop last = key at *
    go_enter Tryz.func78, Tryz.ntmps78
    go_wp2_with (first | (go_at_call 33; refine (HC.out _ HA.out.len).mono ?_; rintro e w2 ⟨rfl, hx2⟩; have HB2 := hide hx2; clear hx2) | (go_at_call 34; refine (HF.out _ (HA.out.below HB2.out).tabs).mono ?_; rintro e w3 ⟨rfl, rfl⟩) | (go_at_call 110; refine (HTk.out _ (HA.out.below HB2.out).tabs).mono ?_; rintro e w4 ⟨rfl, rfl⟩) | (go_at_call 111; refine (HLI.out _).mono ?_; rintro e w5 ⟨rfl, rfl⟩) | (at_lookup; refine wpList_lookup_own_ok_int _ rfl _ _ 83 rfl 9 3 .i64 (Maps.string_keyed Tryz.underlying9) Tryz.underlying83 Tryz.underlying3 (Tryz.zeroValue3 _) b m.length D rfl (HOwn.out _ HB2.out) _ _ rfl HKey.out ?_; intro c hatc hwc; obtain rfl := HCv.out c hatc))
    go_ret
    exact ⟨rfl, HB2.out⟩
  | some p =>
    have hhas : Maps.has D (.string (t.drop last)) = true := by rw [HD.out.1, hlk]; rfl
    have HCv : Hid (∀ c : Int, D.atKey (.string (t.drop last)) (.lit (.int .i64 0)) = .lit (.int .i64 c) → (p : Int) = c) := hide fun c hc => by
      rw [HD.out.2 p hlk] at hc
      injection hc with h; injection h
    have hp := HMm.out p hlk
    have HI := hide (itoa_any ((p : Int) - at') (by omega) (by omega))
    have hil := Lib.itoa_length_le ((p : Int) - at') (by omega) (by omega)
    have HFin := hide (show (ByteArray.mk t.toArray).extract 0 last ++ ⟨(Lib.itoa ((p : Int) - at')).toArray⟩ = ⟨(t.take last ++ Lib.itoa ((p : Int) - at')).toArray⟩ from by rw [HE.out.2, ba_append])
    clear HD HMm hlk
    generalize t.drop last = key at *
    obtain ⟨it, hit⟩ : ∃ it, Lib.itoa ((p : Int) - at') = it := ⟨_, rfl⟩
    rw [hit] at HI hil HFin
    have HIt := hide hit
    clear hit
    rw [show (p : Int) - at' = IntKind.i64.wrap ((p : Int) - at') from by rw [IntKind.wrap_i64]; omega] at HI
    go_enter Tryz.func78, Tryz.ntmps78
    go_wp2_with (first | (go_at_call 33; refine (HC.out _ HA.out.len).mono ?_; rintro e w2 ⟨rfl, hx2⟩; have HB2 := hide hx2; clear hx2) | (go_at_call 34; refine (HF.out _ (HA.out.below HB2.out).tabs).mono ?_; rintro e w3 ⟨rfl, rfl⟩) | (go_at_call 110; refine (HTk.out _ (HA.out.below HB2.out).tabs).mono ?_; rintro e w4 ⟨rfl, rfl⟩) | (go_at_call 111; refine (HLI.out _).mono ?_; rintro e w5 ⟨rfl, rfl⟩) | (at_lookup; refine wpList_lookup_own_ok_int _ rfl _ _ 83 rfl 9 3 .i64 (Maps.string_keyed Tryz.underlying9) Tryz.underlying83 Tryz.underlying3 (Tryz.zeroValue3 _) b m.length D rfl (HOwn.out _ HB2.out) _ _ rfl HKey.out ?_; intro c hatc hwc; obtain rfl := HCv.out c hatc))
    go_region_with (first | (go_at_call 59; refine (HI.out _ (HA.out.below HB2.out.drew).pow).mono ?_; rintro e w6 ⟨rfl, hx6⟩; have HB6 := hide (below_of_drew hx6); clear hx6))
    all_goals
      go_wp2
      go_ret
      exact ⟨ret_str (by rw [HIt.out]; exact HFin.out), HB2.out.trans (HB6.out.mono HB2.out.size)⟩

theorem numbered_any (t : Str) (ht : t.length ≤ 70000) (at' : Nat) (hat : at' ≤ 1000000) (b : Nat) (m : Labs) (hm : ∀ k p, lookL m k = some p → p ≤ 1000000) (w : World) (hA : AsAt w) (hL : LabAt b m w) :
    Calls Tryz.prog 78 #[.string ⟨t.toArray⟩, .int .i64 at', .map (some b)] w fun e w' => e = .returned (.string ⟨(numberedL t at' m).toArray⟩) ∧ Below w.heap.size w w' := by
  unfold numberedL
  cases h : findS (Lib.cut t [32]).1 with
  | none => exact numbered_none t ht h _ _ w hA
  | some op =>
    simp only
    cases hk : (kindN op == 66 || kindN op == 74) with
    | false => exact numbered_not t ht op h hk _ _ w hA
    | true => exact numbered_op t ht op h hk at' hat b m hm w hA hL
end Go.Proofs.YtoekcfbjdcibpaaGreatDoor
namespace Go.Proofs.YtoekcfbjdcibpaaGreatDoor
open Go.RowKit
set_option linter.unusedVariables false

/-- A line's number, and what it says. -/
abbrev Ln := Nat × Str
def lineCells (ls : List Ln) : List Value := ls.flatMap fun p => [.int .i64 (p.1 : Int), .string ⟨p.2.toArray⟩]
theorem lineCells_length (ls : List Ln) : (lineCells ls).length = ls.length * 2 := by
  induction ls with
  | nil => rfl
  | cons x t ih => simp [lineCells, List.flatMap_cons] at ih ⊢; omega
theorem lineCells_snoc (ls : List Ln) (p : Ln) : lineCells (ls ++ [p]) = lineCells ls ++ [.int .i64 (p.1 : Int), .string ⟨p.2.toArray⟩] := by simp [lineCells]
theorem lineCells_at : ∀ (ls : List Ln) (i : Nat) (p : Ln), ls[i]? = some p → (lineCells ls)[i * 2]? = some (.int .i64 (p.1 : Int)) ∧ (lineCells ls)[i * 2 + 1]? = some (.string ⟨p.2.toArray⟩)
  | [], i, x, h => by simp at h
  | y :: t, 0, x, h => by
    simp at h
    subst h
    simp [lineCells]
  | y :: t, i + 1, x, h => by
    have ih := lineCells_at t i x (by simpa using h)
    have e : lineCells (y :: t) = .int .i64 (y.1 : Int) :: .string ⟨y.2.toArray⟩ :: lineCells t := by simp [lineCells]
    rw [e, show (i + 1) * 2 = i * 2 + 1 + 1 by omega, show i * 2 + 1 + 1 + 1 = (i * 2 + 1) + 1 + 1 by omega]
    simpa using ih

/-- Lines that lie in a row. -/
def LinesAt (g cap : Nat) (ls : List Ln) (W : World) : Prop := ∃ cur, W.heap[g]? = some (.cells cur 88 (0, 0)) ∧ ls.length ≤ cap ∧ cur.size = cap * 2 ∧ cur.toList.take (ls.length * 2) = lineCells ls
theorem LinesAt.keeps {g cap : Nat} {ls : List Ln} {W W' : World} (h : LinesAt g cap ls W) (hb : Below W.heap.size W W') : LinesAt g cap ls W' := by
  obtain ⟨cur, h1, h2⟩ := h
  exact ⟨cur, block_keeps h1 hb, h2⟩
theorem LinesAt.same {g cap : Nat} {ls : List Ln} {W W' : World} (h : LinesAt g cap ls W) (hb : W'.heap[g]? = W.heap[g]?) : LinesAt g cap ls W' := by
  obtain ⟨cur, h1, h2⟩ := h
  exact ⟨cur, hb.trans h1, h2⟩
theorem LinesAt.cells {g cap : Nat} {ls : List Ln} {W : World} (h : LinesAt g cap ls W) (i : Nat) (p : Ln) (hi : ls[i]? = some p) :
    W.cell? ⟨g, i * 2, none⟩ = some (.int .i64 (p.1 : Int)) ∧ W.cell? ⟨g, i * 2 + 1, none⟩ = some (.string ⟨p.2.toArray⟩) := by
  obtain ⟨cur, h1, h2, h3, h4⟩ := h
  obtain ⟨e1, e2⟩ := lineCells_at ls i p hi
  have hl : i < ls.length := (List.getElem?_eq_some_iff.1 hi).1
  rw [← h4] at e1 e2
  rw [List.getElem?_take_of_lt (by omega)] at e1 e2
  rw [cell_of_row _ _ _ _ _ (0, 0) h1, cell_of_row _ _ _ _ _ (0, 0) h1, ← Array.getElem?_toList, ← Array.getElem?_toList]
  exact ⟨e1, e2⟩

def placesFrom : List Ln → Nat → Labs → Option Nat × Labs
  | [], _, m => (none, m)
  | l :: r, at', m => if labelL l.2 = [] then placesFrom r (at' + 4) m else if (lookL m (labelL l.2)).isSome = true then (some l.1, m) else placesFrom r at' (m ++ [(labelL l.2, at')])

theorem look_snoc_same (m : Labs) (k : Str) (p : Nat) (h : lookL m k = none) : lookL (m ++ [(k, p)]) k = some p := by
  unfold lookL at h ⊢
  rw [Option.map_eq_none_iff] at h
  rw [List.find?_append, h]
  simp
theorem look_snoc_other (m : Labs) (k k' : Str) (p : Nat) (h : k' ≠ k) : lookL (m ++ [(k, p)]) k' = lookL m k' := by
  unfold lookL
  rw [List.find?_append]
  cases hf : m.find? (fun q => q.1 == k') with
  | some q => simp
  | none => simp [Ne.symm h]

theorem label_len (t : Str) : (labelL t).length ≤ t.length := by
  unfold labelL
  split
  · unfold Lib.trimSuffix
    split
    · rw [List.length_take]; omega
    · exact Nat.le_refl _
  · simp
theorem int_wf (a : Nat) (h : a ≤ 4294967296) : (Lit.int .i64 (a : Int)).wf = true := by
  have h1 : IntKind.i64.min = -9223372036854775808 := by decide +kernel
  have h2 : IntKind.i64.max = 9223372036854775807 := by decide +kernel
  simp only [Lit.wf, h1, h2, Bool.and_eq_true, decide_eq_true_eq]
  omega

/-- Between two rounds. -/
def PlRel (ls : List Ln) (g cap : Nat) (w : World) (iv av : Value) (wr : World) : Prop :=
  ∃ (k a : Nat) (m : Labs), iv = .int .i64 (k : Int) ∧ av = .int .i64 (a : Int) ∧ k ≤ ls.length ∧ a ≤ 4 * k ∧ m.length ≤ k ∧ placesFrom ls 0 [] = placesFrom (ls.drop k) a m ∧ LabAt w.heap.size m wr ∧ LinesAt g cap ls wr ∧ Below w.heap.size w wr
def plLeft (ls : List Ln) (iv : Value) : Nat := ls.length - (intOf iv).toNat

def PlPost (ls : List Ln) (w : World) (e : Ending) (w' : World) : Prop :=
  (∃ k m, placesFrom ls 0 [] = (some k, m) ∧ e = .returned (.tuple #[.map none, .int .i64 (k : Int)]) ∧ Below w.heap.size w w') ∨
  (∃ b m, placesFrom ls 0 [] = (none, m) ∧ e = .returned (.tuple #[.map (some b), .int .i64 0]) ∧ LabAt b m w' ∧ Below w.heap.size w w')

theorem labAt_put {b : Nat} {m : Labs} {D : DataW Unit} {w' : World} {k : Str} {p : Nat} (h : w'.ownsMap Tryz.prog 9 (plainElem Tryz.prog 3) b (m.length + 1) (D.put (.string k) (.lit (.int .i64 (p : Int))))) (him : Maps.IsMap D)
    (hD : ∀ k : Str, Maps.has D (.string k) = (lookL m k).isSome ∧ ∀ p, lookL m k = some p → D.atKey (.string k) (.lit (.int .i64 0)) = .lit (.int .i64 (p : Int))) (hno : lookL m k = none) : LabAt b (m ++ [(k, p)]) w' := by
  refine ⟨_, by rw [List.length_append]; exact h, him.put _ _, fun k' => ?_⟩
  by_cases hk : k' = k
  · subst hk
    rw [look_snoc_same m k' p hno, Maps.has_put_same him (show WideAt.IsKeyLit (.string k') from trivial)]
    refine ⟨rfl, fun q hq => ?_⟩
    injection hq with hq
    rw [Maps.atKey_put_same him (show WideAt.IsKeyLit (.string k') from trivial), hq]
  · rw [look_snoc_other m k k' p hk, Maps.has_put_other (by simpa using hk)]
    refine ⟨(hD k').1, fun q hq => ?_⟩
    rw [Maps.atKey_put_other (by simpa using hk)]
    exact (hD k').2 q hq

set_option maxHeartbeats 4000000 in
set_option maxRecDepth 100000 in
theorem labels_any (ls : List Ln) (hls : ls.length ≤ 70000) (hln : ∀ p ∈ ls, p.2.length ≤ 70000 ∧ p.1 ≤ 100000) (g cap : Nat) (w : World) (hL : LinesAt g cap ls w) :
    Calls Tryz.prog 42 #[.slice (some ⟨g, 0, none⟩) ls.length cap] w fun e w' => PlPost ls w e w' := by
  have hmm := @run_makeMap Tryz.prog
  go_enter Tryz.func42, Tryz.ntmps42
  go_wp2
  go_loopw [14, 5] (fun iv av wr => PlRel ls g cap w iv av wr) (fun iv av wr => plLeft ls iv)
  case atStart =>
    refine ⟨0, 0, [], rfl, rfl, Nat.zero_le _, Nat.zero_le _, Nat.zero_le _, rfl, ⟨.map [], World.ownsMap_made w _ _ _, Maps.isMap_empty, fun k => ⟨rfl, fun p h => by cases h⟩⟩, hL.keeps (below_box w _), below_box w _⟩
  case round =>
    obtain ⟨k, a, m, rfl, rfl, hk, ha, hm, hP, hLab, hLn, hB⟩ := hrel
    have HP := hide hP
    have HLab := hide hLab
    have HLn := hide hLn
    have HB := hide hB
    have hgne : g < w.heap.size := by obtain ⟨cur, h1, _⟩ := hL; exact (Array.getElem?_eq_some_iff.1 h1).1
    clear hP hLab hLn hB
    by_cases hlt : k < ls.length
    · obtain ⟨⟨num, tx⟩, hp⟩ : ∃ p, ls[k]? = some p := ⟨_, List.getElem?_eq_getElem hlt⟩
      obtain ⟨hc1, hc2⟩ := HLn.out.cells k _ hp
      obtain ⟨htx, hnum⟩ := hln _ (List.mem_of_getElem? hp)
      simp only at hc1 hc2 htx hnum
      have HLb := hide (fun w => label_any tx (by omega) w)
      have HDr := hide (show ls.drop k = (num, tx) :: ls.drop (k + 1) from by rw [List.drop_eq_getElem_cons hlt]; congr 1; exact (List.getElem?_eq_some_iff.1 hp).2)
      have HP' := HP.out
      rw [HDr.out, placesFrom] at HP'
      simp only at HP'
      obtain ⟨lb, hlb⟩ : ∃ lb, labelL tx = lb := ⟨_, rfl⟩
      rw [hlb] at HLb HP'
      have HLbe := hide hlb
      have hk2 : (k : Int) * 2 = ((k * 2 : Nat) : Int) := by omega
      clear hp hlb HDr HP
      by_cases hemp : lb = []
      · subst hemp
        rw [if_pos rfl] at HP'
        have HG := hide HP'
        clear HP'
        go_wp2_with (go_at_call 45; refine (HLb.out _).mono ?_; rintro e w2 ⟨rfl, rfl⟩)
        go_roundw
        case rel => exact ⟨k + 1, a + 4, m, by go_num, by go_num, by omega, by omega, by omega, HG.out, HLab.out.keeps (below_box wr _), HLn.out.keeps (below_box wr _), HB.out.trans ((below_box wr _).mono HB.out.size)⟩
        case measure => unfold plLeft; simp only [intOf]; omega
      · rw [if_neg hemp] at HP'
        have hem : List.isEmpty lb = false := by cases lb with | nil => exact absurd rfl hemp | cons _ _ => rfl
        obtain ⟨D, hown, him, hD⟩ := HLab.out
        have HOwn := hide (fun o => hown.kept (row := none) (w' := wr.alloc o) ⟨rfl, rfl, rfl, (below_box wr o).size, fun k hk _ => (below_box wr o).block k hk⟩ (by simp))
        have hlbl : lb.length ≤ 100000 := by have := label_len tx; rw [HLbe.out] at this; omega
        have HKey := hide (show keyOf Tryz.prog 9 (.string ⟨lb.toArray⟩) = some (.string lb) from Go.WideMaps.keyOf_string_mk Tryz.underlying9 (by unfold maxLen; simp [ByteArray.size]; omega))
        cases hlk : lookL m lb with
        | some q =>
          have hhas : Maps.has D (.string lb) = true := by rw [(hD lb).1, hlk]; rfl
          rw [hlk] at HP'
          have HG := hide HP'
          clear HP' hlk hown him hD
          go_wp2_with (first | (go_at_call 45; refine (HLb.out _).mono ?_; rintro e w2 ⟨rfl, rfl⟩) | (at_lookup; refine wpList_lookup_own_ok_int _ rfl _ _ 83 rfl 9 3 .i64 (Maps.string_keyed Tryz.underlying9) Tryz.underlying83 Tryz.underlying3 (Tryz.zeroValue3 _) w.heap.size m.length D rfl (HOwn.out _) _ _ rfl HKey.out ?_; intro c hatc hwc; clear hatc))
          go_quiet (fail)
          go_wp2
          go_ret2
          have hb := HB.out.trans ((below_box wr (.cells #[.int .i64 (num : Int), .string ⟨tx.toArray⟩] 88)).mono HB.out.size)
          exact .inl ⟨_, _, HG.out, rfl, hb.trans ((below_drewS _ _).mono hb.size)⟩
        | none =>
          have hhas : Maps.has D (.string lb) = false := by rw [(hD lb).1, hlk]; rfl
          rw [hlk] at HP'
          have HG := hide HP'
          have HDD := hide (And.intro him (And.intro hD hlk))
          clear HP' hlk hown him hD
          go_wp2_with (first | (go_at_call 45; refine (HLb.out _).mono ?_; rintro e w2 ⟨rfl, rfl⟩) | (at_lookup; refine wpList_lookup_own_ok_int _ rfl _ _ 83 rfl 9 3 .i64 (Maps.string_keyed Tryz.underlying9) Tryz.underlying83 Tryz.underlying3 (Tryz.zeroValue3 _) w.heap.size m.length D rfl (HOwn.out _) _ _ rfl HKey.out ?_; intro c hatc hwc; clear hatc) | (at_mapUpdate; refine wpList_mapUpdate_own _ rfl _ _ _ 83 rfl 9 3 (Maps.string_keyed Tryz.underlying9) Tryz.underlying83 (plainElem Tryz.prog 3) w.heap.size m.length D rfl (HOwn.out _) (by unfold maxLen; omega) _ _ _ rfl rfl HKey.out _ [] (plainElem_int Tryz.underlying3 (int_wf a (by omega))) ?_; intro w3 hown3 hgrow3; have HO3 := hide hown3; have HG3 := hide hgrow3; clear hown3 hgrow3))
          go_roundw
          case rel =>
            have hb := HB.out.trans ((below_box wr (.cells #[.int .i64 (num : Int), .string ⟨tx.toArray⟩] 88)).mono HB.out.size)
            refine ⟨k + 1, a, m ++ [(lb, a)], by go_num, rfl, by omega, by omega, by simp; omega, HG.out, labAt_put HO3.out HDD.out.1 HDD.out.2.1 HDD.out.2.2, (HLn.out.keeps (below_box wr _)).same (HG3.out.block g (by have := HB.out.size; simp; omega) (fun e => by injection e with e; omega)), hb.grown HG3.out hb.size (fun j e => by injection e with e; omega)⟩
          case measure => unfold plLeft; simp only [intOf]; omega
    · obtain rfl : k = ls.length := by omega
      have HG := HP.out
      rw [List.drop_length, placesFrom] at HG
      have HG' := hide HG
      clear HG HP
      go_wp2
      go_ret2
      exact .inr ⟨_, _, HG'.out, rfl, HLab.out, HB.out⟩
end Go.Proofs.YtoekcfbjdcibpaaGreatDoor
namespace Go.Proofs.YtoekcfbjdcibpaaGreatDoor
open Go.RowKit
set_option linter.unusedVariables false

/-- What a closure tells of a line. -/
def Tells (f : Nat) (P : Ln → Bool) : Prop := ∀ (p : Ln) (W : World), p.2.length ≤ 70000 → Calls Tryz.prog f #[.agg #[.int .i64 (p.1 : Int), .string ⟨p.2.toArray⟩]] W fun e w' => e = .returned (.bool (P p)) ∧ Below W.heap.size W w'

def idxL (P : Ln → Bool) (ls : List Ln) : Int := match ls.findIdx? P with | some i => (i : Int) | none => -1

theorem findIdx_at (P : Ln → Bool) (ls : List Ln) (k : Nat) (p : Ln) (hp : ls[k]? = some p) (hno : ∀ q ∈ ls.take k, P q = false) (h : P p = true) : ls.findIdx? P = some k := by
  rw [List.findIdx?_eq_some_iff_getElem]
  obtain ⟨hk, he⟩ := List.getElem?_eq_some_iff.1 hp
  refine ⟨hk, by rw [he]; exact h, fun j hj => ?_⟩
  rw [Bool.not_eq_true]
  exact hno _ (List.mem_take_iff_getElem.2 ⟨j, by omega, rfl⟩)

/-- Between two rounds. -/
def IxRel (P : Ln → Bool) (ls : List Ln) (w : World) (iv : Value) (wr : World) : Prop :=
  ∃ k : Nat, iv = .int .i64 (k : Int) ∧ k ≤ ls.length ∧ (∀ p ∈ ls.take k, P p = false) ∧ Below w.heap.size w wr
def ixLeft (ls : List Ln) (iv : Value) : Nat := ls.length - (intOf iv).toNat

set_option maxHeartbeats 4000000 in
set_option maxRecDepth 100000 in
theorem index_any' (f : Nat) (P : Ln → Bool) (hf : Tells f P) (ef : ∀ args w, (callFunc f args).run Tryz.prog w = .ok (.enter f args) w) (ls : List Ln) (hls : ls.length ≤ 70000) (hln : ∀ p ∈ ls, p.2.length ≤ 70000 ∧ p.1 ≤ 100000) (g cap : Nat) (w : World) (hL : LinesAt g cap ls w) :
    Calls Tryz.prog 74 #[.slice (some ⟨g, 0, none⟩) ls.length cap, .func (.func f) #[] #[]] w fun e w' => e = .returned (.int .i64 (idxL P ls)) ∧ Below w.heap.size w w' := by
  have HT := hide hf
  have HL := hide hL
  clear hf hL
  go_enter Tryz.func74, Tryz.ntmps74
  go_wp2
  go_loopw [8] (fun iv wr => IxRel P ls w iv wr) (fun iv wr => ixLeft ls iv)
  case atStart => exact ⟨0, rfl, Nat.zero_le _, fun p h => by simp at h, Below.refl _ _⟩
  case round =>
    obtain ⟨k, rfl, hk, hno, hB⟩ := hrel
    have HN := hide hno
    have HB := hide hB
    clear hno hB
    by_cases hlt : k < ls.length
    · obtain ⟨⟨num, tx⟩, hp⟩ : ∃ p, ls[k]? = some p := ⟨_, List.getElem?_eq_getElem hlt⟩
      obtain ⟨hc1, hc2⟩ := (HL.out.keeps HB.out).cells k _ hp
      obtain ⟨htx, hnum⟩ := hln _ (List.mem_of_getElem? hp)
      simp only at hc1 hc2 htx hnum
      have HTk := hide (show ls.take (k + 1) = ls.take k ++ [(num, tx)] from by rw [List.take_add_one, hp]; rfl)
      have HC := hide (fun W => HT.out (num, tx) W htx)
      have HI := hide (fun (h : P (num, tx) = true) => show idxL P ls = (k : Int) from by
        unfold idxL
        rw [findIdx_at P ls k _ hp HN.out h])
      obtain ⟨b, hb⟩ : ∃ b, P (num, tx) = b := ⟨_, rfl⟩
      rw [hb] at HC HI
      have HPb := hide hb
      clear hp hb
      cases b with
      | true =>
        go_wp2_with (go_at_fn f; refine (HC.out _).mono ?_; rintro e w2 ⟨rfl, hx2⟩; have HB2 := hide (HB.out.trans (hx2.mono HB.out.size)); clear hx2)
        go_ret
        exact ⟨ret_int (HI.out (by trivial)).symm, HB2.out⟩
      | false =>
        go_wp2_with (go_at_fn f; refine (HC.out _).mono ?_; rintro e w2 ⟨rfl, hx2⟩; have HB2 := hide (HB.out.trans (hx2.mono HB.out.size)); clear hx2)
        go_roundw
        case rel => exact ⟨k + 1, by go_num, by omega, fun p h => by rw [HTk.out] at h; rcases List.mem_append.1 h with h | h; exact HN.out p h; obtain rfl := List.mem_singleton.1 h; exact HPb.out, HB2.out⟩
        case measure => unfold ixLeft; simp only [intOf]; omega
    · obtain rfl : k = ls.length := by omega
      go_wp2
      go_ret
      refine ⟨ret_int ?_, HB.out⟩
      have := HN.out
      rw [List.take_length] at this
      unfold idxL
      rw [List.findIdx?_eq_none_iff.2 this]

def dropL (P : Ln → Bool) (ls : List Ln) : List Ln := ls.filter fun p => !P p

theorem setCells_row {b : Nat} {t : TypeId} : ∀ (vs : List Value) (o : Nat) (w : World) (cur : Array Value), w.heap[b]? = some (.cells cur t (0, 0)) → ∃ cur', (w.setCells b o vs).heap[b]? = some (.cells cur' t (0, 0)) ∧ cur'.size = cur.size ∧ ∀ q, q ≤ o → cur'.toList.take q = cur.toList.take q
  | [], o, w, cur, h => ⟨cur, h, rfl, fun _ _ => rfl⟩
  | v :: r, o, w, cur, h => by
    obtain ⟨cur', h1, h2, h3⟩ := setCells_row r (o + 1) (w.setCell ⟨b, o, none⟩ v) _ (heap_setCell_same w b o _ _ v h)
    refine ⟨cur', h1, by rw [h2]; simp, fun q hq => ?_⟩
    rw [h3 q (by omega), Array.toList_setIfInBounds, List.take_set_of_le (by omega)]
theorem grown_refl (w : World) (row : Option Nat) : w.grownBy w row := ⟨rfl, rfl, rfl, Nat.le_refl _, fun _ _ _ => rfl⟩
theorem grown_trans {a b c : World} {row : Option Nat} (h : a.grownBy b row) (k : b.grownBy c row) : a.grownBy c row :=
  ⟨k.os.trans h.os, k.tape.trans h.tape, k.output.trans h.output, Nat.le_trans h.size k.size, fun i hi hr => (k.block i (Nat.lt_of_lt_of_le hi h.size) hr).trans (h.block i hi hr)⟩
theorem grown_below {a b : World} (row : Option Nat) (h : Below a.heap.size a b) : a.grownBy b row := ⟨h.os, h.tape, h.output, h.size, fun k hk _ => h.block k hk⟩
theorem grown_set (w : World) (b o : Nat) (v : Value) : w.grownBy (w.setCell ⟨b, o, none⟩ v) (some b) :=
  ⟨rfl, rfl, rfl, by simp, fun k _ hr => heap_setCell_other w ⟨b, o, none⟩ k v (fun e => hr (by rw [e]))⟩
theorem grown_sets (b : Nat) : ∀ (vs : List Value) (o : Nat) (w : World), w.grownBy (w.setCells b o vs) (some b)
  | [], o, w => grown_refl w _
  | v :: r, o, w => grown_trans (grown_set w b o v) (grown_sets b r (o + 1) _)

def zeroLine : Array Value := #[.int .i64 0, .string ⟨#[]⟩]
theorem run_clear_lines (w : World) (ty : TypeId) (b o n c : Nat) (hn : 0 < n) (hc : ∀ j, j < n * 2 → (w.cell? ⟨b, o + j, none⟩).isSome = true) (hf : ∀ j, j < n * 2 → w.frozen? ⟨b, o + j, none⟩ = false) :
    (Builtin.clear_ #[81] ty #[.slice (some ⟨b, o, none⟩) n c]).run Tryz.prog w = .ok (.tuple #[]) (w.setCells b o (Builtin.zeroCells zeroLine n).toList) := by
  have hl : (Builtin.zeroCells zeroLine n).toList.length = n * 2 := by simp [Builtin.zeroCells, zeroLine]
  have hst := run_storeCells_cells (P := Tryz.prog) b o (Builtin.zeroCells zeroLine n).toList 0 w (by rw [hl]; simpa using hc) (by rw [hl]; simpa using hf) (by
    intro v hv
    simp only [Builtin.zeroCells, zeroLine, Array.toList_map, Array.toList_range, List.mem_map] at hv
    obtain ⟨a, _, rfl⟩ := hv
    rcases (show a % 2 = 0 ∨ a % 2 = 1 by omega) with h | h
    · show Value.oneCell' (#[Value.int .i64 0, .string ⟨#[]⟩][a % 2]!) = true
      rw [h]; rfl
    · show Value.oneCell' (#[Value.int .i64 0, .string ⟨#[]⟩][a % 2]!) = true
      rw [h]; rfl)
  simp only [Nat.add_zero] at hst
  obtain ⟨m, rfl⟩ : ∃ m, n = m + 1 := ⟨n - 1, by omega⟩
  have hz : ∀ w, (zeroValue 88).run Tryz.prog w = .ok (.agg zeroLine) w := Tryz.zeroValue88
  simp [Builtin.clear_, run_underlying Tryz.underlying81, hz, Value.cells, hst]

/-- The row while lines are left out. -/
def DelRow (P : Ln → Bool) (ls : List Ln) (g cap i j : Nat) (W : World) : Prop :=
  ∃ cur, W.heap[g]? = some (.cells cur 88 (0, 0)) ∧ cur.size = cap * 2 ∧ ls.length ≤ cap ∧ (dropL P (ls.take j)).length = i ∧ cur.toList.take (i * 2) = lineCells (dropL P (ls.take j)) ∧
    ∀ t p, j ≤ t → ls[t]? = some p → cur[t * 2]? = some (.int .i64 (p.1 : Int)) ∧ cur[t * 2 + 1]? = some (.string ⟨p.2.toArray⟩)
theorem DelRow.keeps {P : Ln → Bool} {ls : List Ln} {g cap i j : Nat} {W W' : World} (h : DelRow P ls g cap i j W) (hb : Below W.heap.size W W') : DelRow P ls g cap i j W' := by
  obtain ⟨cur, h1, h2⟩ := h
  exact ⟨cur, block_keeps h1 hb, h2⟩
theorem drop_snoc (P : Ln → Bool) (ls : List Ln) (j : Nat) (p : Ln) (hp : ls[j]? = some p) : dropL P (ls.take (j + 1)) = dropL P (ls.take j) ++ (if P p = true then [] else [p]) := by
  unfold dropL
  rw [List.take_add_one, hp]
  cases h : P p <;> simp [h]
theorem DelRow.skip {P : Ln → Bool} {ls : List Ln} {g cap i j : Nat} {W : World} (h : DelRow P ls g cap i j W) (p : Ln) (hp : ls[j]? = some p) (hP : P p = true) : DelRow P ls g cap i (j + 1) W := by
  obtain ⟨cur, h1, h2, h3, h4, h5, h6⟩ := h
  have e := drop_snoc P ls j p hp
  rw [if_pos hP, List.append_nil] at e
  exact ⟨cur, h1, h2, h3, by rw [e]; exact h4, by rw [e]; exact h5, fun t q ht hq => h6 t q (by omega) hq⟩
theorem DelRow.step {P : Ln → Bool} {ls : List Ln} {g cap i j : Nat} {W : World} (h : DelRow P ls g cap i j W) (hij : i < j) (p : Ln) (hp : ls[j]? = some p) (hP : P p = false) :
    DelRow P ls g cap (i + 1) (j + 1) ((W.setCell ⟨g, i * 2, none⟩ (.int .i64 (p.1 : Int))).setCell ⟨g, i * 2 + 1, none⟩ (.string ⟨p.2.toArray⟩)) := by
  obtain ⟨cur, h1, h2, h3, h4, h5, h6⟩ := h
  have e := drop_snoc P ls j p hp
  rw [if_neg (by simp [hP])] at e
  have hj : j < ls.length := (List.getElem?_eq_some_iff.1 hp).1
  refine ⟨_, heap_setCell_same _ g (i * 2 + 1) _ _ _ (heap_setCell_same W g (i * 2) _ _ _ h1), by simp [h2], h3, by rw [e, List.length_append, h4]; rfl, ?_, fun t q ht hq => ?_⟩
  · rw [e, lineCells_snoc, ← h5, Array.toList_setIfInBounds, Array.toList_setIfInBounds]
    have hl : i * 2 + 1 < cur.toList.length := by rw [Array.length_toList, h2]; omega
    rw [show (i + 1) * 2 = i * 2 + 1 + 1 by omega, List.take_add_one, List.take_add_one, List.take_set_of_le (by omega), List.take_set_of_le (by omega)]
    simp [show i * 2 < cur.size by rw [h2]; omega, show i * 2 + 1 < cur.size by rw [h2]; omega]
  · obtain ⟨a1, a2⟩ := h6 t q (by omega) hq
    rw [Array.getElem?_setIfInBounds_ne (by omega), Array.getElem?_setIfInBounds_ne (by omega), Array.getElem?_setIfInBounds_ne (by omega), Array.getElem?_setIfInBounds_ne (by omega)]
    exact ⟨a1, a2⟩

theorem delRow_start {P : Ln → Bool} {ls : List Ln} {g cap k : Nat} {W : World} (h : LinesAt g cap ls W) (hk : ls.findIdx? P = some k) : DelRow P ls g cap k (k + 1) W ∧ k < ls.length := by
  obtain ⟨cur, h1, h2, h3, h4⟩ := h
  obtain ⟨hkl, hP, hno⟩ := List.findIdx?_eq_some_iff_getElem.1 hk
  have hp : ls[k]? = some ls[k] := List.getElem?_eq_getElem hkl
  have hd : dropL P (ls.take k) = ls.take k := by
    unfold dropL
    rw [List.filter_eq_self]
    intro p hp
    obtain ⟨j, hj, rfl⟩ := List.mem_take_iff_getElem.1 hp
    have := hno j (by omega)
    simpa using this
  have e := drop_snoc P ls k _ hp
  rw [if_pos hP, List.append_nil, hd] at e
  refine ⟨⟨cur, h1, h3, h2, by rw [e, List.length_take]; omega, ?_, fun t p ht hq => ?_⟩, hkl⟩
  · rw [e]
    have hc : (lineCells ls).take (k * 2) = lineCells (ls.take k) := by
      have : lineCells ls = lineCells (ls.take k) ++ lineCells (ls.drop k) := by unfold lineCells; rw [← List.flatMap_append, List.take_append_drop]
      rw [this, List.take_append_of_le_length (by rw [lineCells_length, List.length_take]; omega), List.take_of_length_le (by rw [lineCells_length, List.length_take]; omega)]
    rw [← hc, ← h4, List.take_take]
    congr 1
    omega
  · obtain ⟨e1, e2⟩ := lineCells_at ls t p hq
    have hl : t < ls.length := (List.getElem?_eq_some_iff.1 hq).1
    rw [← h4] at e1 e2
    rw [List.getElem?_take_of_lt (by omega)] at e1 e2
    rw [← Array.getElem?_toList, ← Array.getElem?_toList]
    exact ⟨e1, e2⟩
theorem DelRow.cells {P : Ln → Bool} {ls : List Ln} {g cap i j : Nat} {W : World} (h : DelRow P ls g cap i j W) (hij : i < j) (p : Ln) (hp : ls[j]? = some p) :
    (W.cell? ⟨g, j * 2, none⟩ = some (.int .i64 (p.1 : Int)) ∧ W.cell? ⟨g, j * 2 + 1, none⟩ = some (.string ⟨p.2.toArray⟩)) ∧ (∃ v, W.cell? ⟨g, i * 2, none⟩ = some v) ∧ (∃ v, W.cell? ⟨g, i * 2 + 1, none⟩ = some v) ∧ ∀ o, W.frozen? ⟨g, o, none⟩ = false := by
  obtain ⟨cur, h1, h2, h3, h4, h5, h6⟩ := h
  have hj : j < ls.length := (List.getElem?_eq_some_iff.1 hp).1
  refine ⟨?_, ?_, ?_, fun o => frozen_of_row W _ _ _ _ h1⟩
  · rw [cell_of_row _ _ _ _ _ (0, 0) h1, cell_of_row _ _ _ _ _ (0, 0) h1]
    exact h6 j p (Nat.le_refl _) hp
  · exact ⟨_, (cell_of_row _ _ _ _ _ (0, 0) h1).trans (Array.getElem?_eq_getElem (by rw [h2]; omega))⟩
  · exact ⟨_, (cell_of_row _ _ _ _ _ (0, 0) h1).trans (Array.getElem?_eq_getElem (by rw [h2]; omega))⟩

/-- Between two rounds. -/
def DelRel (P : Ln → Bool) (ls : List Ln) (g cap : Nat) (w : World) (iv jv : Value) (wr : World) : Prop :=
  ∃ i j : Nat, iv = .int .i64 (i : Int) ∧ jv = .int .i64 (j : Int) ∧ i < j ∧ j ≤ ls.length ∧ DelRow P ls g cap i j wr ∧ w.grownBy wr (some g)

set_option maxHeartbeats 4000000 in
set_option maxRecDepth 100000 in
theorem del_some (f : Nat) (P : Ln → Bool) (hf : Tells f P) (ef : ∀ args w, (callFunc f args).run Tryz.prog w = .ok (.enter f args) w) (ls : List Ln) (hls : ls.length ≤ 70000) (hln : ∀ p ∈ ls, p.2.length ≤ 70000 ∧ p.1 ≤ 100000) (g cap : Nat) (w : World) (hL : LinesAt g cap ls w) (k : Nat) (hk : ls.findIdx? P = some k) :
    Calls Tryz.prog 43 #[.slice (some ⟨g, 0, none⟩) ls.length cap, .func (.func f) #[] #[]] w fun e w' => e = .returned (.slice (some ⟨g, 0, none⟩) (dropL P ls).length cap) ∧ LinesAt g cap (dropL P ls) w' ∧ w.grownBy w' (some g) := by
  have HT := hide hf
  have HL := hide hL
  have HI := hide (fun w h => index_any' f P hf ef ls hls hln g cap w h)
  rw [show idxL P ls = (k : Int) from by unfold idxL; rw [hk]] at HI
  obtain ⟨hd0, hkl⟩ := delRow_start hL hk
  have HD0 := hide hd0
  have hg : g < w.heap.size := by obtain ⟨cur, h1, _⟩ := hL; exact (Array.getElem?_eq_some_iff.1 h1).1
  have hkne : ((k : Int) == -1) = false := by rw [beq_eq_false_iff_ne]; omega
  clear hf hL hd0
  go_enter Tryz.func43, Tryz.ntmps43
  go_wp2_with (go_at_call 74; refine (HI.out _ HL.out).mono ?_; rintro e w2 ⟨rfl, hx2⟩; have HB2 := hide hx2; clear hx2)
  go_loopw [5, 6] (fun iv jv wr => DelRel P ls g cap w iv jv wr) (fun iv jv wr => ixLeft ls jv)
  case atStart => exact ⟨k, k + 1, rfl, by go_num, by omega, by omega, HD0.out.keeps HB2.out, grown_below _ HB2.out⟩
  case round =>
    obtain ⟨i, j, rfl, rfl, hij, hj, hR, hG⟩ := hrel
    have HR := hide hR
    have HG := hide hG
    clear hR hG
    by_cases hlt : j < ls.length
    · obtain ⟨⟨num, tx⟩, hp⟩ : ∃ p, ls[j]? = some p := ⟨_, List.getElem?_eq_getElem hlt⟩
      obtain ⟨⟨hc1, hc2⟩, _⟩ := HR.out.cells hij _ hp
      obtain ⟨htx, hnum⟩ := hln _ (List.mem_of_getElem? hp)
      simp only at hc1 hc2 htx hnum
      have HC := hide (fun W => HT.out (num, tx) W htx)
      have HSk := hide (fun (h : P (num, tx) = true) => HR.out.skip _ hp h)
      have HPp := hide hp
      have hgr : g < wr.heap.size := Nat.lt_of_lt_of_le hg HG.out.size
      obtain ⟨b, hb⟩ : ∃ b, P (num, tx) = b := ⟨_, rfl⟩
      rw [hb] at HC
      have HPb := hide hb
      clear hp hb
      cases b with
      | true =>
        go_wp2_with (go_at_fn f; refine (HC.out _).mono ?_; rintro e w3 ⟨rfl, hx3⟩; have HB3 := hide (below_new hx3); clear hx3)
        go_roundw
        case rel => exact ⟨i, j + 1, rfl, by go_num, by omega, by omega, (HSk.out HPb.out).keeps HB3.out, grown_trans HG.out (grown_below _ HB3.out)⟩
        case measure => unfold ixLeft; simp only [intOf]; omega
      | false =>
        go_wp2_with (go_at_fn f; refine (HC.out _).mono ?_; rintro e w3 ⟨rfl, hx3⟩; have HB3 := hide (below_new hx3); have hb1 : w3.cell? ⟨wr.heap.size, 0, none⟩ = some (.int .i64 (num : Int)) := (hx3.cell (p := ⟨wr.heap.size, 0, none⟩) (by simp)).trans ((cell_of_row _ _ _ _ _ (0, 0) (heap_alloc_new wr _)).trans rfl); have hb2 : w3.cell? ⟨wr.heap.size, 1, none⟩ = some (.string ⟨tx.toArray⟩) := (hx3.cell (p := ⟨wr.heap.size, 1, none⟩) (by simp)).trans ((cell_of_row _ _ _ _ _ (0, 0) (heap_alloc_new wr _)).trans rfl); obtain ⟨_, ⟨v1, hv1⟩, ⟨v2, hv2⟩, hfz⟩ := (HR.out.keeps HB3.out).cells hij _ HPp.out; clear hx3)
        go_roundw
        case rel =>
          have hst := (HR.out.keeps HB3.out).step hij (num, tx) HPp.out HPb.out
          simp only at hst
          have hgs := grown_trans (grown_trans (grown_trans HG.out (grown_below (some g) HB3.out)) (grown_set w3 g (i * 2) (.int .i64 (num : Int)))) (grown_set (w3.setCell ⟨g, i * 2, none⟩ (.int .i64 (num : Int))) g (i * 2 + 1) (.string ⟨tx.toArray⟩))
          refine ⟨i + 1, j + 1, ?_, ?_, by omega, by omega, hst, hgs⟩
          · go_num
          · go_num
        case measure => unfold ixLeft; simp only [intOf]; omega
    · obtain rfl : j = ls.length := by omega
      obtain ⟨cur, r1, r2, r3, r4, r5, r6⟩ := HR.out
      rw [List.take_length] at r4 r5
      have hcl : ∀ ty, (Builtin.clear_ #[81] ty #[.slice (some ⟨g, i * 2, none⟩) (ls.length - i) (cap - i)]).run Tryz.prog wr = .ok (.tuple #[]) (wr.setCells g (i * 2) (Builtin.zeroCells zeroLine (ls.length - i)).toList) := fun ty =>
        run_clear_lines wr ty g (i * 2) (ls.length - i) (cap - i) (by omega) (fun t ht => by rw [cell_of_row _ _ _ _ _ (0, 0) r1, Array.getElem?_eq_getElem (by rw [r2]; omega)]; rfl) (fun t ht => frozen_of_row wr _ _ _ _ r1)
      obtain ⟨cur', q1, q2, q3⟩ := setCells_row (Builtin.zeroCells zeroLine (ls.length - i)).toList (i * 2) wr cur r1
      have hgs := grown_trans HG.out (grown_sets g (Builtin.zeroCells zeroLine (ls.length - i)).toList (i * 2) wr)
      generalize wr.setCells g (i * 2) (Builtin.zeroCells zeroLine (ls.length - i)).toList = V at *
      have HF := hide (show LinesAt g cap (dropL P ls) V ∧ (dropL P ls).length = i from ⟨⟨cur', q1, by rw [r4]; omega, by rw [q2]; exact r2, by rw [r4, q3 _ (Nat.le_refl _)]; exact r5⟩, r4⟩)
      have HGs := hide hgs
      clear r1 r2 r3 r4 r5 r6 q1 q2 q3 hgs
      have hcap2 : i < cap := by obtain ⟨cur, _, _, h3, _⟩ := HR.out; omega
      go_wp2
      go_ret
      refine ⟨?_, HF.out.1, HGs.out⟩
      rw [HF.out.2]
      rfl

set_option maxHeartbeats 1000000 in
set_option maxRecDepth 100000 in
theorem del_any (f : Nat) (P : Ln → Bool) (hf : Tells f P) (ef : ∀ args w, (callFunc f args).run Tryz.prog w = .ok (.enter f args) w) (ls : List Ln) (hls : ls.length ≤ 70000) (hln : ∀ p ∈ ls, p.2.length ≤ 70000 ∧ p.1 ≤ 100000) (g cap : Nat) (w : World) (hL : LinesAt g cap ls w) :
    Calls Tryz.prog 43 #[.slice (some ⟨g, 0, none⟩) ls.length cap, .func (.func f) #[] #[]] w fun e w' => e = .returned (.slice (some ⟨g, 0, none⟩) (dropL P ls).length cap) ∧ LinesAt g cap (dropL P ls) w' ∧ w.grownBy w' (some g) := by
  cases hk : ls.findIdx? P with
  | some k => exact del_some f P hf ef ls hls hln g cap w hL k hk
  | none =>
    have hd : dropL P ls = ls := by
      unfold dropL
      rw [List.filter_eq_self]
      intro p hp
      have := List.findIdx?_eq_none_iff.1 hk p hp
      simp [this]
    rw [hd]
    have HL := hide hL
    have HI := hide (fun w h => index_any' f P hf ef ls hls hln g cap w h)
    rw [show idxL P ls = -1 from by unfold idxL; rw [hk]] at HI
    clear hf hL hk hd
    go_enter Tryz.func43, Tryz.ntmps43
    go_wp2_with (go_at_call 74; refine (HI.out _ HL.out).mono ?_; rintro e w2 ⟨rfl, hx2⟩; have HB2 := hide hx2; clear hx2)
    go_ret
    exact ⟨rfl, HL.out.keeps HB2.out, grown_below _ HB2.out⟩

def isVoid (p : Ln) : Bool := List.isEmpty p.2
def isLab (p : Ln) : Bool := !List.isEmpty (labelL p.2)
set_option maxRecDepth 100000 in
theorem tells_void : Tells 73 isVoid := by
  intro p W hp
  obtain ⟨n, t⟩ := p
  unfold isVoid
  simp only
  go_enter Tryz.func73, Tryz.ntmps73
  go_wp2
  go_ret
  exact ⟨ret_bool (by cases t <;> rfl), below_box W _⟩
set_option maxRecDepth 100000 in
theorem tells_lab : Tells 44 isLab := by
  intro p W hp
  obtain ⟨n, t⟩ := p
  unfold isLab
  simp only at hp ⊢
  have HL := hide (fun w => label_any t (by omega) w)
  generalize labelL t = lb at *
  go_enter Tryz.func44, Tryz.ntmps44
  go_wp2_with (go_at_call 45; refine (HL.out _).mono ?_; rintro e w2 ⟨rfl, rfl⟩)
  go_ret
  exact ⟨ret_bool (by cases lb <;> rfl), below_box W _⟩
end Go.Proofs.YtoekcfbjdcibpaaGreatDoor
