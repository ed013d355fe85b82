/-
  WordHex: for every number the program's Hex is the document's, Parse of Hex is the number, and for every text the program's Parse is the document's, or the error with the number that the document asks; what must come whatever the input is comes; the arguments stay. The one condition: errors.errorType reads as the program's text lays it, to which the card ties it.
-/
import Derived.Test.YtcgnkkkeoeoenabDoorHexWalk
import Derived.Test.YtcgnkkkeoeoenabDoorCheck
import Derived.Test.YtcgnkkkeoeoenabDoorNum
import Derived.Test.YtcgnkkkeoeoenabDoorLaid
import Derived.Test.YtcgnkkkeoeoenabDoorTie
import Derived.Test.YtcgnkkkeoeoenabDoorCards
import Derived.ProofKit
import Derived.OpenShut
import Derived.ShutString
import Derived.SevenTiedAt
import Derived.SizedLaws
import Derived.Deep.RegionWith
import Derived.WalkSmall
namespace Go.Proofs.YtcgnkkkeoeoenabDoor
open Go.ChangeShapes Go.WideShapes Go.ChangeAt Go.RowKit
open Go.ChangeMaps (open_string shut_string)
set_option linter.unusedVariables false

theorem own : ownKnob Tryd.prog.godebug = none := by kernel_rfl

theorem dig_of : ∀ n : Fin 16, dig (digs.getD n.val 0) = (n.val : Int) := by decide +kernel
theorem fold_from (l : List UInt8) (s : Nat) : l.foldl (fun s c => s * 16 + (dig c).toNat) s = s * 16 ^ l.length + valN l := by
  unfold valN
  induction l generalizing s with
  | nil => simp
  | cons c l ih =>
    rw [List.foldl_cons, ih, List.foldl_cons, ih (0 * 16 + (dig c).toNat), List.length_cons, Nat.pow_succ]
    simp only [Nat.add_mul, Nat.zero_mul, Nat.zero_add]
    rw [Nat.mul_comm (16 ^ l.length) 16, Nat.mul_assoc, Nat.add_assoc]
theorem hex_val (v k : Nat) : valN (hexTo v k) = v % 16 ^ k := by
  induction k with
  | zero => simp [hexTo, valN, Nat.mod_one]
  | succ k ih =>
    have hd := dig_of ⟨v / 16 ^ k % 16, Nat.mod_lt _ (by decide)⟩
    simp only at hd
    rw [hexTo]
    show (hexTo v k).foldl (fun s c => s * 16 + (dig c).toNat) (0 * 16 + (dig (digs.getD (v / 16 ^ k % 16) 0)).toNat) = _
    rw [fold_from, hd, hexTo_length, ih, Nat.pow_succ, Nat.mod_mul]
    simp only [Nat.zero_mul, Nat.zero_add, Int.toNat_natCast]
    rw [Nat.mul_comm, Nat.add_comm]
theorem hex_ok (v k : Nat) : okN (hexTo v k) = true := by
  induction k with
  | zero => rfl
  | succ k ih =>
    have hd := dig_of ⟨v / 16 ^ k % 16, Nat.mod_lt _ (by decide)⟩
    simp only at hd
    simp only [okN] at ih
    simp only [hexTo, okN, List.all_cons, hd, ih, Bool.and_true, decide_eq_true_eq]
    omega
theorem hex_back (v : Nat) (hv : v < 4294967296) : parseV ⟨(hexTo v 8).toArray⟩ = v ∧ parseE ⟨(hexTo v 8).toArray⟩ = 0 := by
  have hs : (ByteArray.mk (hexTo v 8).toArray).size = 8 := by show (hexTo v 8).toArray.size = 8; rw [List.size_toArray, hexTo_length]
  have hl : (ByteArray.mk (hexTo v 8).toArray).data.toList = hexTo v 8 := by simp
  unfold parseV parseE
  rw [hs, hl, hex_ok, hex_val]
  simp
  omega

theorem HandleAt.below {w w' : World} {B : Nat} (h : HandleAt w) (hb : Below B w w') (hB : 0 < B) : HandleAt w' := (hb.cell (p := ⟨0, 0, none⟩) hB).trans h

set_option maxHeartbeats 2000000 in
set_option maxRecDepth 100000 in
theorem hexlaw_walk (b0 : Int) (s : ByteArray) (w0 : (Lit.int .u32 b0).wf = true) (hs : s.size ≤ 9223372036854775807) (w : World) (hg : HandleAt w) :
    Calls Tryd.prog 3 #[.int .u32 b0, .string s] w fun e w' => e = .returned (.bool true) ∧ Below w.heap.size w w' := by
  have hb := bounds_u32 w0
  obtain ⟨v, rfl⟩ := Int.eq_ofNat_of_zero_le (show 0 ≤ b0 by omega)
  have hv : v < 4294967296 := by omega
  have HP := hide (parse_any s hs)
  have HR := hide (refparse_any s hs)
  obtain ⟨hb1, hb2⟩ := hex_back v hv
  have hsz : (ByteArray.mk (hexTo v 8).toArray).size ≤ 9223372036854775807 := by show (hexTo v 8).toArray.size ≤ _; rw [List.size_toArray, hexTo_length]; omega
  have hq := parse_any (ByteArray.mk (hexTo v 8).toArray) hsz
  rw [hb1, hb2, show errV 0 = .nilIface from rfl] at hq
  have HQ := hide hq
  have HX := hide (hex_any v hv)
  have HY := hide (refhex_any v hv)
  generalize (ByteArray.mk (hexTo v 8).toArray) = S at *
  have hpe : parseE s = 0 ∨ parseE s = 3 := by unfold parseE; split <;> simp
  have hgl : 0 < w.heap.size := by
    rcases Nat.lt_or_ge 0 w.heap.size with h' | h'
    · exact h'
    · simp [HandleAt, World.cell?, Array.getElem?_eq_none h'] at hg
  have hb0 : Below w.heap.size w w := Below.refl _ _
  clear hb1 hb2 hsz hq hb w0
  generalize parseV s = pv at *
  rcases hpe with he | he
  · rw [he] at HP HR
    rw [show errV 0 = .nilIface from rfl] at HP
    clear he hg
    go_enter Tryd.func3, Tryd.ntmps3
    go_wp2_with (first | (go_at_call_of 4 (Value.string s); refine (HP.out _).mono ?_; rintro e w1 ⟨rfl, rfl⟩) | (go_at_call 5; refine (HR.out _).mono ?_; rintro e w2 ⟨rfl, nq, rfl⟩; replace hb0 := below_drewN hb0 nq) | (go_at_call_of 4 (Value.string S); refine (HQ.out _).mono ?_; rintro e w4 ⟨rfl, rfl⟩) | (go_at_call 6; refine (HX.out _).mono ?_; rintro e w3 ⟨rfl, hbx⟩; replace hb0 := hb0.trans (hbx.mono hb0.size); clear hbx) | (go_at_call 7; refine (HY.out _).mono ?_; rintro e w6 ⟨rfl, rfl⟩) | (go_at_call 8; refine (num_nil _).mono ?_; rintro e w7 ⟨rfl, hb7⟩; replace hb0 := hb0.trans (hb7.mono hb0.size); clear hb7) | (go_at_call 9; refine (sure_any _).mono ?_; rintro e w8 ⟨rfl, hb8⟩; replace hb0 := hb0.trans (hb8.mono hb0.size); clear hb8))
    go_ret
    exact ⟨rfl, hb0⟩
  · rw [he] at HP HR
    rw [show errV 3 = .iface 33 (.int .i64 3) from rfl] at HP
    clear he
    go_enter Tryd.func3, Tryd.ntmps3
    go_wp2_with (first | (go_at_call_of 4 (Value.string s); refine (HP.out _).mono ?_; rintro e w1 ⟨rfl, rfl⟩) | (go_at_call 5; refine (HR.out _).mono ?_; rintro e w2 ⟨rfl, nq, rfl⟩; replace hb0 := below_drewN hb0 nq) | (go_at_call_of 4 (Value.string S); refine (HQ.out _).mono ?_; rintro e w4 ⟨rfl, rfl⟩) | (go_at_call 6; refine (HX.out _).mono ?_; rintro e w3 ⟨rfl, hbx⟩; replace hb0 := hb0.trans (hbx.mono hb0.size); clear hbx) | (go_at_call 7; refine (HY.out _).mono ?_; rintro e w6 ⟨rfl, rfl⟩) | (go_at_call 8; refine (num_err 3 _ (HandleAt.below hg hb0 hgl)).mono ?_; rintro e w7 ⟨rfl, hb7⟩; replace hb0 := hb0.trans (hb7.mono hb0.size); clear hb7) | (go_at_call 9; refine (sure_any _).mono ?_; rintro e w8 ⟨rfl, hb8⟩; replace hb0 := hb0.trans (hb8.mono hb0.size); clear hb8))
    go_ret
    exact ⟨rfl, hb0⟩

set_option maxRecDepth 100000 in
theorem hex_lifted (os : Os) (started : os.Started) (H : Type) (enc : TypeId × Value → H) :
    ReturnsInHanded {} Tryd.checked os 3 .any (fun w args => (Rows.wordHexSpec.pre enc Tryd.prog Tryd.f3 [] false w args ∧ laidMetH Tryd.prog [("errors.errorType", Rows.laid_errors_errorType)] w) ∧ sizedMet enc Tryd.prog Tryd.f3 (OpenSpec.ofChange Rows.wordHexSpec) false w args)
      (Rows.wordHexSpec.post enc Tryd.prog Tryd.f3 false true false false) := by
  refine returnsInHanded_of_change_and (C := Tryd.checked) (X := fun w _ => laidMetH Tryd.prog [("errors.errorType", Rows.laid_errors_errorType)] w) (fun _ _ _ hh h => h.of_heap hh) own started (by kernel_rfl) Tryd.func3
    (ChangeSpec.witness_shaped (enc := enc) (C := Tryd.checked) (os := os) (X := fun w _ => laidMetH Tryd.prog [("errors.errorType", Rows.laid_errors_errorType)] w) false (World.doorLaid Tryd.prog 600 os) #[.int .u32 0, .string ⟨#[]⟩] 8 rfl (World.shaped_of_RefB (by kernel_rfl) (by kernel_rfl)) (by kernel_rfl) (by kernel_rfl) (by kernel_rfl) (door_met os _)) ?_
  intro W base args ds gs before hval0 hW _ hsz0 hL _
  have hval : ∀ (j : Nat) t v, Tryd.f3.params[j]? = some t → args[j]? = some v → Value.okWide Tryd.prog W .any base t v := hval0
  have hsz : (DataW.weightsEach Tryd.prog (Tryd.f3.params.toList ++ Rows.wordHexSpec.plain.varTypes Tryd.prog) (ds ++ gs)).all (· ≤ reachBytes) = true := hsz0
  clear hsz0
  have hW' := hW
  obtain ⟨p, q, hA0, hV, rfl, hfz, hnd⟩ := hW
  have hA : DataW.TrodAll enc Tryd.prog W 0 (fun _ => true) true Tryd.f3.params.toList args.toList ds p := hA0
  rw [Tryd.params3] at hA hval hsz
  obtain ⟨v0, vs0, d0, ds0, p0, q0, hargs, rfl, rfl, h0, r0⟩ := trodAll_cons hA
  obtain ⟨v1, vs1, d1, ds1, p1, q1, rfl, rfl, rfl, h1, r1⟩ := trodAll_cons r0
  obtain ⟨rfl, rfl, rfl⟩ := trodAll_nil r1
  obtain rfl : args = #[v0, v1] := by cases args; simp_all
  obtain ⟨rfl, rfl⟩ := trodVars_none hV
  obtain ⟨a0, rfl, rfl, rfl, w0⟩ := open_int Tryd.underlying22 (hval 0 22 v0 rfl rfl) h0
  obtain ⟨s, rfl, rfl, rfl, hs⟩ := open_string Tryd.underlying9 (hval 1 9 v1 rfl rfl) h1
  clear hA0 hval0
  refine (hexlaw_walk a0 s w0 (by unfold maxLen at hs; omega) W (handle_of_laid hL)).mono fun e W' ⟨he, bel⟩ => ?_
  subst he
  exact ⟨_, rfl, _, _, _, [], _, [], hW', trodAll_mk1 (shut_bool Tryd.underlying4 _), (trodAll_cons_mk (shut_int Tryd.underlying22 w0) (trodAll_cons_mk (shut_string Tryd.underlying9 hs) trodAll_mk0)), rfl, bel.frame _, fun h => by cases h⟩

theorem hex_over : Rows.WordHexSaid :=
  OpenClaim.holds_of_wide 3 Tryd.f3 rfl rfl rfl rfl rfl rfl rfl ⟨rfl, rfl, rfl, rfl, rfl⟩ rfl rfl rfl rfl rfl (by kernel_rfl) Tryd.func3 (by kernel_rfl)
    (of_decide_eq_true (by kernel_rfl)) (by unfold Func.isWrapper; first | (rw [if_pos (by decide +kernel)]; kernel_rfl) | (rw [if_neg (by decide +kernel)]; exact ⟨rfl, rfl⟩))
    (fun os started H enc _ => hex_lifted os started H enc)

theorem wordHex_proved : Rows.WordHexCardSaid :=
  Claim7.holds_tied_plain_at .later [] [.handle] true (true, "8a1a6e7b2f54f706e67ec795f462a9cf3e9735ccf745dd176e7073844d5c7c39") true
    hex_over (fun _ h => by cases h) (by kernel_rfl) (fun _ h => by cases h) wordHex_row_tie rfl ⟨rfl, rfl⟩ (by kernel_rfl) rfl
    (fun f fn hf hfn => by
      obtain rfl : f = 3 := Option.some.inj ((show Tryd.prog.funcNamed Rows.wordHexRow.func = some 3 by kernel_rfl).symm.trans hf) |>.symm
      obtain rfl : fn = Tryd.f3 := (Option.some.inj (Tryd.func3.symm.trans hfn)).symm
      exact ⟨by kernel_rfl, fun j t ht => by
        rw [Tryd.params3] at ht
        have hm : t ∈ [22, 9] := by simpa using Array.mem_of_getElem? ht
        have hall : ([22, 9].all fun u => !Tryd.prog.wantsStandIn u) = true := by kernel_rfl
        exact (show Tryd.prog.wantsStandIn t = false by simpa using List.all_eq_true.1 hall t hm)⟩)
    (by kernel_rfl)
#print axioms wordHex_proved
end Go.Proofs.YtcgnkkkeoeoenabDoor
