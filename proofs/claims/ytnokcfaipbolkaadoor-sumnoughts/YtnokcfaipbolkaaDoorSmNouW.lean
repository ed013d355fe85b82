/-
  SumNoughts, walked.
-/
import Derived.Test.YtnokcfaipbolkaaDoorSmSure
import Derived.Test.YtnokcfaipbolkaaDoorSmNou
namespace Go.Proofs.YtnokcfaipbolkaaDoor
open Go.RowKit
set_option linter.unusedVariables false
set_option linter.unusedSimpArgs false

/-- The part: a number below another one. -/
theorem part_lt (more : Int) (m : Nat) (hm : m ≤ 1099511627776) : ∃ k : Nat, k ≤ m ∧ wrap64 ((IntKind.u64.wrap more).tmod ((m : Int) + 1)) = (k : Int) := by
  have h0 : 0 ≤ IntKind.u64.wrap more := by rw [IntKind.wrap_u64]; exact Int.emod_nonneg _ (by decide)
  obtain ⟨q, hq⟩ := Int.eq_ofNat_of_zero_le h0
  refine ⟨q % (m + 1), by have := Nat.mod_lt q (show 0 < m + 1 by omega); omega, ?_⟩
  rw [hq, show (m : Int) + 1 = ((m + 1 : Nat) : Int) from rfl, show ((q : Int)).tmod ((m + 1 : Nat) : Int) = ((q % (m + 1) : Nat) : Int) from rfl]
  have := Nat.mod_lt q (show 0 < m + 1 by omega)
  unfold wrap64
  omega
set_option maxHeartbeats 4000000 in
theorem noughts_bad (n : Nat) (hn : n < 4294967296) (many more : Int) (hbad : ¬ (0 ≤ many ∧ many ≤ 1099511627776)) (w : World) (hH : HandleAt w) (hT : TabAt w) :
    Calls Tryd.prog 5 #[.int .u32 (n : Nat), .int .i64 many, .int .i64 more] w fun e w' => e = .returned (.bool true) ∧ Below w.heap.size w w' := by
  have HN := hide (noughts_any n hn many w hT)
  rw [nouV, nouE, if_neg hbad, if_neg hbad] at HN
  have HU := hide (nums_any 1 w hH)
  have HS := hide (fun w hT => sure_any w hT)
  have HT := hide hT
  have hUV : errS 1 = .iface 47 (.int .i64 1) := rfl
  rw [hUV] at HU
  clear hH hT hUV
  by_cases h0 : many < 0
  · clear hbad
    go_enter Tryd.func5, Tryd.ntmps5
    go_wp2_with (first | (go_at_call 18; (with_reducible refine (HN.out).mono ?_); rintro e w' ⟨rfl, rfl⟩) | (go_at_call 17; refine (HU.out).mono ?_; rintro e w2 ⟨rfl, hb⟩) | (go_at_call 8; (with_reducible refine (HS.out _ (HT.out.below hb)).mono ?_); rintro e w3 ⟨rfl, hb3⟩; replace hb := below_bl rfl hb hb3))
    go_ret
    exact ⟨rfl, hb⟩
  · have h1 : 1099511627776 < many := by omega
    clear hbad
    go_enter Tryd.func5, Tryd.ntmps5
    go_wp2_with (first | (go_at_call 18; (with_reducible refine (HN.out).mono ?_); rintro e w' ⟨rfl, rfl⟩) | (go_at_call 17; refine (HU.out).mono ?_; rintro e w2 ⟨rfl, hb⟩) | (go_at_call 8; (with_reducible refine (HS.out _ (HT.out.below hb)).mono ?_); rintro e w3 ⟨rfl, hb3⟩; replace hb := below_bl rfl hb hb3))
    go_ret
    exact ⟨rfl, hb⟩
set_option maxHeartbeats 4000000 in
theorem noughts_good (n : Nat) (hn : n < 4294967296) (m : Nat) (more : Int) (hm : m ≤ 1099511627776) (w : World) (hT : TabAt w) :
    Calls Tryd.prog 5 #[.int .u32 (n : Nat), .int .i64 (m : Nat), .int .i64 more] w fun e w' => e = .returned (.bool true) ∧ Below w.heap.size w w' := by
  obtain ⟨k, hk, hp⟩ := part_lt more m hm
  have g : ∀ (s j : Nat), j ≤ 1099511627776 → nouV s (j : Nat) = zN (8 * j) s ∧ nouE (j : Nat) = .nilIface := fun s j hj => by
    rw [nouV, nouE, if_pos (by omega), if_pos (by omega), Int.toNat_natCast]
    exact ⟨rfl, rfl⟩
  have HN := hide (noughts_any n hn m w hT)
  rw [(g n m hm).1, (g n m hm).2] at HN
  have HK := hide (noughts_any n hn k w hT)
  rw [(g n k (by omega)).1, (g n k (by omega)).2] at HK
  have HL := hide (noughts_any (zN (8 * k) n) (zN_lt _ hn) ((m - k : Nat) : Int) w hT)
  rw [(g (zN (8 * k) n) (m - k) (by omega)).1, (g (zN (8 * k) n) (m - k) (by omega)).2, ← zN_add, show 8 * k + 8 * (m - k) = 8 * m by omega, show ((m - k : Nat) : Int) = (m : Int) - (k : Int) by omega] at HL
  have HS := hide (fun w hT => sure_any w hT)
  have HT := hide hT
  clear hT g
  by_cases h2 : m ≤ 2000
  · have HR := hide (fun w => rnoughts_any n hn m h2 w)
    generalize zN (8 * k) n = y at *
    generalize zN (8 * m) n = x at *
    go_enter Tryd.func5, Tryd.ntmps5
    go_wp2_with (first | (go_at_call 18; (with_reducible refine (HN.out).mono ?_); rintro e w' ⟨rfl, rfl⟩) | (go_at_call 19; (with_reducible refine (HR.out _).mono ?_); rintro e w' ⟨rfl, rfl⟩) | (go_at_call 18; (with_reducible refine (HK.out).mono ?_); rintro e w' ⟨rfl, rfl⟩) | (go_at_call 18; (with_reducible refine (HL.out).mono ?_); rintro e w' ⟨rfl, rfl⟩) | (go_at_call 8; (with_reducible refine (HS.out _ HT.out).mono ?_); rintro e w3 ⟨rfl, hb⟩))
    go_ret
    exact ⟨rfl, hb⟩
  · have h2' : 2000 < m := by omega
    clear h2
    generalize zN (8 * k) n = y at *
    generalize zN (8 * m) n = x at *
    go_enter Tryd.func5, Tryd.ntmps5
    go_wp2_with (first | (go_at_call 18; (with_reducible refine (HN.out).mono ?_); rintro e w' ⟨rfl, rfl⟩) | (go_at_call 19; (with_reducible refine (HR.out _).mono ?_); rintro e w' ⟨rfl, rfl⟩) | (go_at_call 18; (with_reducible refine (HK.out).mono ?_); rintro e w' ⟨rfl, rfl⟩) | (go_at_call 18; (with_reducible refine (HL.out).mono ?_); rintro e w' ⟨rfl, rfl⟩) | (go_at_call 8; (with_reducible refine (HS.out _ HT.out).mono ?_); rintro e w3 ⟨rfl, hb⟩))
    go_ret
    exact ⟨rfl, hb⟩
theorem noughts_walk (n : Nat) (hn : n < 4294967296) (many more : Int) (w : World) (hH : HandleAt w) (hT : TabAt w) :
    Calls Tryd.prog 5 #[.int .u32 (n : Nat), .int .i64 many, .int .i64 more] w fun e w' => e = .returned (.bool true) ∧ Below w.heap.size w w' := by
  by_cases h : 0 ≤ many ∧ many ≤ 1099511627776
  · obtain ⟨m, rfl⟩ := Int.eq_ofNat_of_zero_le h.1
    exact noughts_good n hn m more (by omega) w hT
  · exact noughts_bad n hn many more h w hH hT
end Go.Proofs.YtnokcfaipbolkaaDoor
