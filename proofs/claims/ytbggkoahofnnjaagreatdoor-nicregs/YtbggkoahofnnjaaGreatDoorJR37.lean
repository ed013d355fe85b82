/-
  What the document's Write answers.
-/
import Derived.Test.YtbggkoahofnnjaaGreatDoorJR34
import Derived.Test.YtbggkoahofnnjaaGreatDoorJR32
import Derived.Test.YtbggkoahofnnjaaGreatDoorJR35
import Derived.Test.YtbggkoahofnnjaaGreatDoorJR36
open Go.Proofs.Tryz
set_option linter.unusedVariables false
set_option linter.unusedSimpArgs false
namespace Go.Proofs.YtbggkoahofnnjaaGreatDoor
open Go.RowKit
theorem rwrite_any (s : V) (ok : s.Ok) (a v : Nat) (hv : v < 4294967296) (w : World) : Calls prog 27 #[.agg s.cells, .int .u32 (a : Nat), .int .u32 (v : Nat)] w fun e w' => e = .returned (.tuple #[.agg (writeV s a v).1.cells, .int .i64 (writeV s a v).2.1, .int .i64 ((writeV s a v).2.2 : Nat)]) ∧ Below w.heap.size w w' := by
  rcases accV_cases s a with hm | hm | hm
  · by_cases n20 : a = 20
    · by_cases c2 : 2 ≤ s.se
      · exact rwr_20_far s ok a v hv hm n20 c2 w
      by_cases c0 : s.se = 0
      · exact rwr_20_0 s ok a v hv hm n20 c0 w
      · exact rwr_20_1 s ok a v hv hm n20 (show s.se = 1 by omega) w
    by_cases n36 : a = 36
    · by_cases c2 : 2 ≤ s.se
      · exact rwr_36_far s ok a v hv hm n36 c2 w
      by_cases c0 : s.se = 0
      · exact rwr_36_0 s ok a v hv hm n36 c0 w
      · exact rwr_36_1 s ok a v hv hm n36 (show s.se = 1 by omega) w
    by_cases n48 : a = 48
    · by_cases c2 : 2 ≤ v
      · exact rwr_48_far s ok a v hv hm n48 c2 w
      by_cases c0 : v = 0
      · exact rwr_48_0 s ok a v hv hm n48 c0 w
      · exact rwr_48_1 s ok a v hv hm n48 (show v = 1 by omega) w
    by_cases n32 : a = 32
    · cases h3 : s.st.testBit 3 with
      | true =>
        by_cases c2 : 2 ≤ s.se
        · exact rwr_32t_far s ok a v hv hm n32 h3 c2 w
        by_cases c0 : s.se = 0
        · exact rwr_32t_0 s ok a v hv hm n32 h3 c0 w
        · exact rwr_32t_1 s ok a v hv hm n32 h3 (show s.se = 1 by omega) w
      | false =>
        by_cases d2 : 2 ≤ s.ds
        · by_cases c2 : 2 ≤ s.se
          · exact rwr_32n_far s ok a v hv hm n32 h3 d2 c2 w
          by_cases c0 : s.se = 0
          · exact rwr_32n_0 s ok a v hv hm n32 h3 d2 c0 w
          · exact rwr_32n_1 s ok a v hv hm n32 h3 d2 (show s.se = 1 by omega) w
        by_cases d0 : s.ds = 0
        · by_cases c2 : 2 ≤ s.se
          · exact rwr_32d0_far s ok a v hv hm n32 h3 d0 c2 w
          by_cases c0 : s.se = 0
          · exact rwr_32d0_0 s ok a v hv hm n32 h3 d0 c0 w
          · exact rwr_32d0_1 s ok a v hv hm n32 h3 d0 (show s.se = 1 by omega) w
        · by_cases c2 : 2 ≤ s.se
          · exact rwr_32d1_far s ok a v hv hm n32 h3 (by omega) c2 w
          by_cases c0 : s.se = 0
          · exact rwr_32d1_0 s ok a v hv hm n32 h3 (by omega) c0 w
          · exact rwr_32d1_1 s ok a v hv hm n32 h3 (by omega) (show s.se = 1 by omega) w
    by_cases n80 : a = 80
    · by_cases v2 : 2 ≤ v
      · by_cases c2 : 2 ≤ s.se
        · exact rwr_80a_far s ok a v hv hm n80 v2 c2 w
        by_cases c0 : s.se = 0
        · exact rwr_80a_0 s ok a v hv hm n80 v2 c0 w
        · exact rwr_80a_1 s ok a v hv hm n80 v2 (show s.se = 1 by omega) w
      by_cases v0 : v = 0
      · cases hr0 : s.q0.rd with
        | false =>
          by_cases c2 : 2 ≤ s.se
          · exact rwr_80f0_far s ok a v hv hm n80 v0 hr0 c2 w
          by_cases c0 : s.se = 0
          · exact rwr_80f0_0 s ok a v hv hm n80 v0 hr0 c0 w
          · exact rwr_80f0_1 s ok a v hv hm n80 v0 hr0 (show s.se = 1 by omega) w
        | true =>
          cases hl : liveV s with
          | true => exact rwr_80h0 s ok a v hv hm n80 v0 hr0 hl w
          | false =>
            by_cases c2 : 2 ≤ s.se
            · exact rwr_80g0_far s ok a v hv hm n80 v0 hr0 hl c2 w
            by_cases c0 : s.se = 0
            · exact rwr_80g0_0 s ok a v hv hm n80 v0 hr0 hl c0 w
            · exact rwr_80g0_1 s ok a v hv hm n80 v0 hr0 hl (show s.se = 1 by omega) w
      by_cases v1 : v = 1
      · cases hr0 : s.q1.rd with
        | false =>
          by_cases c2 : 2 ≤ s.se
          · exact rwr_80f1_far s ok a v hv hm n80 v1 hr0 c2 w
          by_cases c0 : s.se = 0
          · exact rwr_80f1_0 s ok a v hv hm n80 v1 hr0 c0 w
          · exact rwr_80f1_1 s ok a v hv hm n80 v1 hr0 (show s.se = 1 by omega) w
        | true =>
          cases hl : liveV s with
          | true => exact rwr_80h1 s ok a v hv hm n80 v1 hr0 hl w
          | false =>
            by_cases c2 : 2 ≤ s.se
            · exact rwr_80g1_far s ok a v hv hm n80 v1 hr0 hl c2 w
            by_cases c0 : s.se = 0
            · exact rwr_80g1_0 s ok a v hv hm n80 v1 hr0 hl c0 w
            · exact rwr_80g1_1 s ok a v hv hm n80 v1 hr0 hl (show s.se = 1 by omega) w
      · omega
    by_cases n100 : a = 100
    · by_cases c2 : 2 ≤ s.se
      · exact rwr_100_far s ok a v hv hm n100 c2 w
      by_cases c0 : s.se = 0
      · exact rwr_100_0 s ok a v hv hm n100 c0 w
      · exact rwr_100_1 s ok a v hv hm n100 (show s.se = 1 by omega) w
    by_cases n112 : a = 112
    · exact rwr_112 s ok a v hv hm n112 w
    by_cases c2 : 2 ≤ s.se
    · exact rwd_far s ok a v hv hm n20 n36 n32 n48 n80 n100 n112 c2 w
    by_cases c0 : s.se = 0
    · by_cases n68 : a = 68
      · by_cases v0 : v = 0
        · exact rwd_z0 s ok a v hv hm c0 n68 v0 w
        by_cases v1 : v = 1
        · cases hc : chkR s.q0.r with
          | true => exact rwd_t0 s ok a v hv hm c0 n68 v1 hc w
          | false => exact rwd_f0 s ok a v hv hm c0 n68 v1 hc w
        · exact rwd_o0 s ok a v hv hm c0 n68 v0 v1 w
      cases hr0 : s.q0.rd with
      | true => exact rwd_r0 s ok a v hv hm c0 n20 n36 n32 n48 n80 n100 n112 n68 hr0 w
      | false =>
        by_cases n56 : a = 56
        · by_cases h2 : v ≤ 256
          · exact rwd_sa0 s ok a v hv hm c0 hr0 n56 h2 w
          · exact rwd_sb0 s ok a v hv hm c0 hr0 n56 (by omega) w
        by_cases n128 : a = 128
        · exact rwd_128_0 s ok a v hv hm c0 hr0 n128 w
        by_cases n144 : a = 144
        · exact rwd_144_0 s ok a v hv hm c0 hr0 n144 w
        by_cases n160 : a = 160
        · exact rwd_160_0 s ok a v hv hm c0 hr0 n160 w
        by_cases n132 : a = 132
        · by_cases h2 : v = 0
          · exact rwd_132z_0 s ok a v hv hm c0 hr0 n132 h2 w
          · exact rwd_132f_0 s ok a v hv hm c0 hr0 n132 h2 w
        by_cases n148 : a = 148
        · by_cases h2 : v = 0
          · exact rwd_148z_0 s ok a v hv hm c0 hr0 n148 h2 w
          · exact rwd_148f_0 s ok a v hv hm c0 hr0 n148 h2 w
        by_cases n164 : a = 164
        · by_cases h2 : v = 0
          · exact rwd_164z_0 s ok a v hv hm c0 hr0 n164 h2 w
          · exact rwd_164f_0 s ok a v hv hm c0 hr0 n164 h2 w
        exact rwd_n0 s ok a v hv hm c0 hr0 n20 n36 n32 n48 n80 n100 n112 n68 n56 n128 n144 n160 n132 n148 n164 w
    by_cases c1 : s.se = 1
    · by_cases n68 : a = 68
      · by_cases v0 : v = 0
        · exact rwd_z1 s ok a v hv hm c1 n68 v0 w
        by_cases v1 : v = 1
        · cases hc : chkR s.q1.r with
          | true => exact rwd_t1 s ok a v hv hm c1 n68 v1 hc w
          | false => exact rwd_f1 s ok a v hv hm c1 n68 v1 hc w
        · exact rwd_o1 s ok a v hv hm c1 n68 v0 v1 w
      cases hr0 : s.q1.rd with
      | true => exact rwd_r1 s ok a v hv hm c1 n20 n36 n32 n48 n80 n100 n112 n68 hr0 w
      | false =>
        by_cases n56 : a = 56
        · by_cases h2 : v ≤ 256
          · exact rwd_sa1 s ok a v hv hm c1 hr0 n56 h2 w
          · exact rwd_sb1 s ok a v hv hm c1 hr0 n56 (by omega) w
        by_cases n128 : a = 128
        · exact rwd_128_1 s ok a v hv hm c1 hr0 n128 w
        by_cases n144 : a = 144
        · exact rwd_144_1 s ok a v hv hm c1 hr0 n144 w
        by_cases n160 : a = 160
        · exact rwd_160_1 s ok a v hv hm c1 hr0 n160 w
        by_cases n132 : a = 132
        · by_cases h2 : v = 0
          · exact rwd_132z_1 s ok a v hv hm c1 hr0 n132 h2 w
          · exact rwd_132f_1 s ok a v hv hm c1 hr0 n132 h2 w
        by_cases n148 : a = 148
        · by_cases h2 : v = 0
          · exact rwd_148z_1 s ok a v hv hm c1 hr0 n148 h2 w
          · exact rwd_148f_1 s ok a v hv hm c1 hr0 n148 h2 w
        by_cases n164 : a = 164
        · by_cases h2 : v = 0
          · exact rwd_164z_1 s ok a v hv hm c1 hr0 n164 h2 w
          · exact rwd_164f_1 s ok a v hv hm c1 hr0 n164 h2 w
        exact rwd_n1 s ok a v hv hm c1 hr0 n20 n36 n32 n48 n80 n100 n112 n68 n56 n128 n144 n160 n132 n148 n164 w
    · omega
  · exact rwr_e1 s ok a v hv hm w
  · rcases (accV_20 hm).2 with h | h
    · exact rwr_ge s ok a v hv hm h w
    · exact rwr_od s ok a v hv hm h.1 h.2 w
end Go.Proofs.YtbggkoahofnnjaaGreatDoor
