/-
  The walk of MemAlone.
-/
import Derived.Test.YtficoenanfnijaaGreatDoorJMeTwo
import Derived.Deep.CutRange
import Derived.Deep.CutBlock
import Derived.Deep.RegionHeldLaw
import Derived.Laws.Strings
namespace Go.Proofs.YtficoenanfnijaaGreatDoor
open Go.RowKit
set_option linter.unusedVariables false
attribute [local go_sem ↓] Go.wp_at_zero Go.wp_at_succ

theorem text_ne {a b : ByteArray} (h : ¬ a = b) : ¬ a.toList = b.toList := by
  intro e
  rw [ByteArray.toList_eq, ByteArray.toList_eq] at e
  apply h
  obtain ⟨a⟩ := a
  obtain ⟨b⟩ := b
  congr 1
  exact Array.toList_inj.1 e
set_option maxRecDepth 100000 in
set_option maxHeartbeats 4000000 in
theorem alone_walk (sa1 sa2 : Option Addr) (len1 len2 cap1 cap2 : Nat) (A1 A2 : Nat → Act5) (L1 L2 : Nat → List Nat) (w : World) (hl1 : len1 ≤ 9223372036854775807) (hl2 : len2 ≤ 9223372036854775807) (hA1 : ActsAt w w.heap.size sa1 len1 A1 L1) (hA2 : ActsAt w w.heap.size sa2 len2 A2 L2) (hc1 : len1 ≤ cap1) (hc2 : len2 ≤ cap2) (hH : HandleAt w) :
    Calls Tryz.prog 4 #[.slice sa1 len1 cap1, .slice sa2 len2 cap2] w fun e w' => e = .returned (.bool true) ∧ Below w.heap.size w w' := by
  have HN := hide (new_ram 3 (by omega) (by omega) w)
  obtain ⟨b, hb⟩ : ∃ b, w.heap.size + 1 + 1 = b := ⟨_, rfl⟩
  rw [hb] at HN
  obtain ⟨N, hN⟩ : ∃ N, N = 12288 := ⟨_, rfl⟩
  obtain ⟨n, hn⟩ : ∃ n, n = 3 := ⟨_, rfl⟩
  have HRN : Hid (∀ W : World, Calls Tryz.prog 6 #[.int .i64 3] W fun e w' => (∃ r : RP, e = .returned (.tuple #[.agg (r.v N n), .int .i64 0]) ∧ RefAt w' N n (fun _ => 0) r ∧ ∀ x, r.owns x → W.heap.size ≤ x) ∧ Below W.heap.size W w') := hide (fun W => by subst hn; exact rnew_ok N 3 (by omega) (by omega) (by omega) W)
  have hN4 : ((3 : Nat) : Int) = 3 := rfl
  rw [hN4, ← hn] at HN
  have HHn := hide hH
  have HA1 := hide hA1
  have HA2 := hide hA2
  have Hn4 := hide hn
  have HN4 := hide hN
  clear hA1 hA2 hH hb hN hn hN4
  go_enter Tryz.func4, Tryz.ntmps4
  go_upto_block 0 with (first | (go_at_call 5; refine HN.out.mono ?_; rintro e W1 ⟨rfl, ⟨P, D, hx1⟩, hx2⟩; have HRam := hide hx1; have HB1 := hide hx2; clear hx1 hx2) | (go_at_call 6; refine (HRN.out W1).mono ?_; rintro e W2 ⟨⟨r, rfl, hx1, hx2⟩, hx3⟩; have HRef := hide hx1; have HRo := hide hx2; have HB2 := hide hx3; obtain ⟨c, hc⟩ : ∃ c, W2.heap.size = c := ⟨_, rfl⟩; have HC := hide hc; clear hx1 hx2 hx3 hc) | ((with_reducible refine al_R c ?_ ?_); exact HC.out; intro W3 hs hb3 hz3; have HB3 : Hid (Below W2.heap.size W2 W3) := hide (HC.out ▸ hb3); clear hb3) | ((with_reducible refine st_R c _ r N n hs ?_ ?_ ?_ ?_); exact rfl; exact rfl; exact rfl; intro W4 hnew ho4; have HL4 := hide (loop_start HRam.out HB1.out HRef.out HB2.out HRo.out HC.out HB3.out ho4 hnew HHn.out); clear hnew ho4 hs))
  go_cut [9] from 17 (fun s9 wx => ∃ m r, LoopIn w W4 wx w.heap.size b P D N n c (fun _ => False) (fun _ => False) m r 12)
  case first =>
    go_wp2_with (fail)
    go_loopw [9] (fun iv wr => ∃ (i : Nat) (m : Mem) (r : RP), i ≤ 12 ∧ iv = .int .i64 (i : Nat) ∧ LoopIn w W4 wr w.heap.size b P D N n c (fun _ => False) (fun _ => False) m r (0 + i)) (fun iv _ => 12 - (intOf iv).toNat)
    case atStart => exact ⟨0, Mem.fresh n, r, by omega, rfl, HL4.out⟩
    case round =>
      obtain ⟨i, m, r, hi, rfl, hL⟩ := hrel
      have HL := hide hL
      have i0 : (0 : Int) ≤ (i : Int) := by omega
      by_cases h1 : i < len1
      · have t1 : decide ((i : Int) < (len1 : Int)) = true := decide_eq_true (by omega)
        have t1' : decide (i < len1) = true := decide_eq_true h1
        by_cases h2 : i < 12
        · have t2 : decide ((i : Int) < 12) = true := decide_eq_true (by omega)
          have t2' : decide (i < 12) = true := decide_eq_true h2
          obtain ⟨ba, oa, rfl, k0, k1, k2, k3, k4⟩ := HA1.out.at hL.bel h1
          have HRaw := hide (HA1.out.raw i h1)
          have HBg := hide (fun W => big_any (A1 i) W (Nat.le_trans HRaw.out.cap.1 HRaw.out.cap.2))
          have HAc : Hid (∀ W, Below w.heap.size w W → (A1 i).L ≤ 20000 → ActAt W w.heap.size (A1 i) (L1 i)) := hide (fun W hb hf => HA1.out.act hb h1 hf)
          have i9 : (i : Int) < (len1 : Int) := by omega
          clear hL
          generalize A1 i = a at *
          generalize L1 i = l at *
          cases hbg : decide (20000 < a.L) with
          | true =>
            rw [hbg] at HBg
            go_wp2_with (go_at_call 7; refine (HBg.out _).mono ?_; rintro e W5 ⟨rfl, hx5⟩; have HL5 := hide (HL.out.bl hx5); have j0 := cell_bl hx5 k0; have j1 := cell_bl hx5 k1; have j2 := cell_bl hx5 k2; have j3 := cell_bl hx5 k3; have j4 := cell_bl hx5 k4; clear hx5)
            go_roundw
            case rel => exact ⟨i + 1, m, r, by omega, by go_num, HL5.out.more (by omega)⟩
            case measure => simp [intOf]; omega
          | false =>
            rw [hbg] at HBg
            have HLe : Hid (a.L ≤ 20000) := hide (by have := of_decide_eq_false hbg; omega)
            go_wp2_with (go_at_call 7; refine (HBg.out _).mono ?_; rintro e W5 ⟨rfl, hx5⟩; have HL5 := hide (HL.out.bl hx5); have j0 := cell_bl hx5 k0; have j1 := cell_bl hx5 k1; have j2 := cell_bl hx5 k2; have j3 := cell_bl hx5 k3; have j4 := cell_bl hx5 k4; clear hx5)
            have HSt := hide (step_any (HL5.out.dr.sin (by omega)) a l (HAc.out W5.drew HL5.out.dr.bel HLe.out) HL5.out.small)
            have hrw := HL5.out.row
            have n0 : W5.cell? ⟨c, 0, none⟩ = some (.slice (some ⟨r.gB, 0, none⟩) N r.cB) := hrw.cell 0
            have n1 : W5.cell? ⟨c, 1, none⟩ = some (.slice (some ⟨r.gD, 0, none⟩) n r.cD) := hrw.cell 1
            have n2 : W5.cell? ⟨c, 2, none⟩ = some (.int .i64 r.wr) := hrw.cell 2
            clear hrw k0 k1 k2 k3 k4
            go_region_with (first | (go_at_call 8; refine HSt.out.mono ?_; rintro e W6 ⟨m', r', bb, he, hM, hRf, hg, ho⟩; have he2 : e = .returned (.tuple #[.agg #[.slice (some ⟨r'.gB, 0, none⟩) N r'.cB, .slice (some ⟨r'.gD, 0, none⟩) n r'.cD, .int .i64 r'.wr], .bool bb]) := he; clear he; subst he2; have hr6 := HL5.out.dr.row.kept hM.kept (fun h1 => HL5.out.offm (.inl h1)); have u0 : W6.cell? ⟨c, 0, none⟩ = some (.slice (some ⟨r.gB, 0, none⟩) N r.cB) := hr6.cell 0; have u1 : W6.cell? ⟨c, 1, none⟩ = some (.slice (some ⟨r.gD, 0, none⟩) n r.cD) := hr6.cell 1; have u2 : W6.cell? ⟨c, 2, none⟩ = some (.int .i64 r.wr) := hr6.cell 2; have p0 := hr6.thaw 0; have p1 := hr6.thaw 1; have p2 := hr6.thaw 2; have HM := hide hM; have HRf := hide hRf; have HG := hide hg; have HO := hide ho; clear hM hRf hg ho hr6))
            all_goals
              go_simp
              go_wp2
              go_roundw
              case rel => exact ⟨i + 1, m'.norm, r', by omega, by go_num, HL5.out.dr.next HM.out HRf.out HG.out HO.out⟩
              case measure => simp [intOf]; omega
        · have t2 : decide ((i : Int) < 12) = false := decide_eq_false (by omega)
          have t2' : decide (i < 12) = false := decide_eq_false h2
          clear hL
          go_wp2_with (fail)
          go_meet
          case rel => exact ⟨m, r, HL.out.more (by omega)⟩
      · have t1 : decide ((i : Int) < (len1 : Int)) = false := decide_eq_false (by omega)
        have t1' : decide (i < len1) = false := decide_eq_false h1
        clear hL
        go_wp2_with (fail)
        go_meet
        case rel => exact ⟨m, r, HL.out.more (by omega)⟩

  case rest =>
    obtain ⟨m0, r0, hL⟩ := hcut
    have HL := hide hL
    clear hL HL4 HRam HRef HRo HB1 HB2 HB3 HC
    go_wp2_with (fail)
    refine (clone_any HL.out.ram HL.out.base (by rw [HL.out.same, Hn4.out]; omega)).mono ?_
    rintro e X2 ⟨cc, Q, E, k0, rfl, hx1, hx2, hx3, hx4, hx5, hx6, hx7⟩
    have HL2 := hide (HL.out.bl hx7)
    have hx8 := hx1.dat_of m0.dat (fun p o hp => (hx6 p o (hx2 ▸ hp)).symm)
    obtain ⟨k, hk⟩ : ∃ k, ({ k0 with dat := m0.dat } : Mem) = k := ⟨_, rfl⟩
    rw [hk] at hx8
    have kn : k.n = m0.n := by rw [← hk]; exact hx2
    have kd : k.dat = m0.dat := by rw [← hk]
    have kz : k.z = none := by rw [← hk]; exact hx4
    have kw : k.wr = m0.wr := by rw [← hk]; exact hx5
    have ki : k.dirty = m0.dirty := by rw [← hk]; exact hx3
    have HKo : Hid (∀ x, k.owns cc Q E x → ¬ ZA m0 b P D r0 c x) := hide (fun x hx hz => by
      have h9 := hx8.owns_low hx
      rcases hz with h | h | h | h
      · have := HL.out.ram.owned h; omega
      · have := HL.out.ram.z_lt h; omega
      · have := HL.out.ref.lt h; omega
      · have := HL.out.row.lt; omega)
    have HK := hide (hx8.lower HL.out.base)
    clear hx1 hx2 hx3 hx4 hx5 hx6 hx7 hx8 hk
    have hcn : m0.wr ≤ 1000000 := Nat.le_trans HL.out.count (by omega)
    have HW1 := hide (writes_any HK.out (by rw [kw]; exact hcn))
    rw [kw] at HW1
    have HW2 := hide (writes_any HL2.out.ram hcn)
    have hww : ((m0.wr : Int) != (m0.wr : Int)) = false := by simp
    have HD1 := hide (dirty_any HK.out)
    have HDl : Hid (dirtyTo k k.n = dirtyTo m0 m0.n) := hide (by unfold dirtyTo; rw [ki, kn])
    rw [HDl.out] at HD1
    have HDb : Hid ((dirtyTo m0 m0.n).length ≤ 16384) := hide (Nat.le_trans (dirtyTo_len m0 m0.n) HL.out.ram.few)
    go_upto_region 13 with (first | (go_at_call 16; (with_reducible refine HW1.out.mono ?_); rintro e Y9 ⟨rfl, rfl⟩) | (go_at_call 16; (with_reducible refine HW2.out.mono ?_); rintro e Y9 ⟨rfl, rfl⟩) | (go_at_call 12; (with_reducible refine HD1.out.mono ?_); rintro e X3 ⟨v1, rfl, hx1, hx2⟩; have HI1 := hide (IntRow.of hx1); have HL3 := hide (HL2.out.bl hx2); have HK3 := hide (HK.out.bl hx2); have HD2 := hide (dirty_any HL3.out.ram); clear hx1 hx2) | (go_at_call 12; (with_reducible refine HD2.out.mono ?_); rintro e X4 ⟨v2, rfl, hx1, hx2⟩; have HI2 := hide (IntRow.of hx1); replace HI1 := hide (HI1.out.bl hx2); have HL4 := hide (HL3.out.bl hx2); have HK4 := hide (HK3.out.bl hx2); have HIn := hide (ints_eq v1 v2 (dirtyTo m0 m0.n) X4 HI1.out HI2.out HDb.out); clear hx1 hx2) | (go_at_call 17; refine HIn.out.mono ?_; rintro e X5 ⟨rfl, hx2⟩; have HL5 := hide (HL4.out.bl hx2); have HK5 := hide (HK4.out.bl hx2); clear hx2))
    have hrc := HL5.out.row
    obtain ⟨S0, hS0⟩ : ∃ S0, X5.heap.size = S0 := ⟨_, rfl⟩
    go_upto_block 2 with (first | ((with_reducible refine ld_R c _ N n hrc ?_ ?_); exact rfl) | (go_at_call 18; refine (rtwin_any HL5.out.ref).mono ?_; rintro e X6 ⟨⟨s, rfl, hx1, hx2⟩, hx3⟩; have HSr := hide hx1; have HSo := hide hx2; have HB6 := hide hx3; obtain ⟨c2, hc⟩ : ∃ c2, X6.heap.size = c2 := ⟨_, rfl⟩; have HC2 := hide hc; clear hx1 hx2 hx3 hc) | ((with_reducible refine al_R c2 ?_ ?_); exact HC2.out; intro X7 hs hb7 hz7; have HB7 : Hid (Below X6.heap.size X6 X7) := hide (HC2.out ▸ hb7); clear hb7) | ((with_reducible refine st_R c2 _ s N n hs ?_ ?_ ?_ ?_); exact rfl; exact rfl; exact rfl; intro X8 hnew ho8; have HSt := hide (alone_start HL5.out HK5.out kd kn kz kw HKo.out HSr.out HSo.out HB6.out HC2.out HB7.out ho8 hnew); have HX8 : Hid (X7.heap.size = X8.heap.size) := hide ho8.size.symm; clear hnew ho8 hs))
    have HLk := hide HSt.out.1
    have HLm := hide HSt.out.2
    have hz1 := HB6.out.size
    have hz2 := HB7.out.size
    have hz3 := HX8.out
    have hz4 := HC2.out
    have HS0 : Hid ((∀ x, s.owns x → S0 ≤ x) ∧ S0 ≤ X8.heap.size) := hide ⟨fun x hx => by have := HSo.out x hx; omega, by omega⟩
    have HMS : Hid (∀ x, m0.owns b P D x → x < S0) := hide (fun x hx => by have := HL5.out.ram.owned hx; omega)
    have HC2S : Hid (S0 ≤ c2) := hide (by omega)
    clear HSt HSr HSo HB6 HB7 HX8 HC2 hz1 hz2 hz3 hz4 hrc hS0 HK5 HK4 HK3 HK HL HL2 HL3 HL4 HL5 HI1 HI2 HIn HD1 HD2 HW1 HW2 HDl HDb hww hcn HKo kn kd kz kw ki
    go_cut [12] from 17 (fun s12 wx => ∃ m r, LoopIn w X8 wx w.heap.size cc Q E N n c2 (ZA m0 b P D r0 c) (fun x => m0.owns b P D x) m r 24 ∧ ∀ x, r.owns x → S0 ≤ x)
    case first =>
      go_wp2_with (fail)
      go_loopw [12] (fun iv wr => ∃ (i : Nat) (m : Mem) (r : RP), i ≤ 12 ∧ iv = .int .i64 (i : Nat) ∧ LoopIn w X8 wr w.heap.size cc Q E N n c2 (ZA m0 b P D r0 c) (fun x => m0.owns b P D x) m r (12 + i) ∧ (∀ x, r.owns x → S0 ≤ x) ∧ S0 ≤ wr.heap.size) (fun iv _ => 12 - (intOf iv).toNat)
      case atStart => exact ⟨0, k, s, by omega, rfl, HLk.out, HS0.out⟩
      case round =>
        obtain ⟨i, m, r, hi, rfl, hL, hIv⟩ := hrel
        have HL := hide hL
        have HIm := hide hIv
        clear hIv
        have i0 : (0 : Int) ≤ (i : Int) := by omega
        by_cases h1 : i < len2
        · have t1 : decide ((i : Int) < (len2 : Int)) = true := decide_eq_true (by omega)
          have t1' : decide (i < len2) = true := decide_eq_true h1
          by_cases h2 : i < 12
          · have t2 : decide ((i : Int) < 12) = true := decide_eq_true (by omega)
            have t2' : decide (i < 12) = true := decide_eq_true h2
            obtain ⟨ba, oa, rfl, k0, k1, k2, k3, k4⟩ := HA2.out.at hL.bel h1
            have HRaw := hide (HA2.out.raw i h1)
            have HBg := hide (fun W => big_any (A2 i) W (Nat.le_trans HRaw.out.cap.1 HRaw.out.cap.2))
            have HAc : Hid (∀ W, Below w.heap.size w W → (A2 i).L ≤ 20000 → ActAt W w.heap.size (A2 i) (L2 i)) := hide (fun W hb hf => HA2.out.act hb h1 hf)
            have i9 : (i : Int) < (len2 : Int) := by omega
            clear hL
            generalize A2 i = a at *
            generalize L2 i = l at *
            cases hbg : decide (20000 < a.L) with
            | true =>
              rw [hbg] at HBg
              go_wp2_with (go_at_call 7; refine (HBg.out _).mono ?_; rintro e W5 ⟨rfl, hx5⟩; have HL5 := hide (HL.out.bl hx5); have HW5 := hide hx5.size; have j0 := cell_bl hx5 k0; have j1 := cell_bl hx5 k1; have j2 := cell_bl hx5 k2; have j3 := cell_bl hx5 k3; have j4 := cell_bl hx5 k4; clear hx5)
              go_roundw
              case rel => exact ⟨i + 1, m, r, by omega, by go_num, HL5.out.more (by omega), HIm.out.1, Nat.le_trans HIm.out.2 HW5.out⟩
              case measure => simp [intOf]; omega
            | false =>
              rw [hbg] at HBg
              have HLe : Hid (a.L ≤ 20000) := hide (by have := of_decide_eq_false hbg; omega)
              go_wp2_with (go_at_call 7; refine (HBg.out _).mono ?_; rintro e W5 ⟨rfl, hx5⟩; have HL5 := hide (HL.out.bl hx5); have HW5 := hide hx5.size; have j0 := cell_bl hx5 k0; have j1 := cell_bl hx5 k1; have j2 := cell_bl hx5 k2; have j3 := cell_bl hx5 k3; have j4 := cell_bl hx5 k4; clear hx5)
              have HSt := hide (step_any (HL5.out.dr.sin (by omega)) a l (HAc.out W5.drew HL5.out.dr.bel HLe.out) HL5.out.small)
              have hrw := HL5.out.row
              have n0 : W5.cell? ⟨c2, 0, none⟩ = some (.slice (some ⟨r.gB, 0, none⟩) N r.cB) := hrw.cell 0
              have n1 : W5.cell? ⟨c2, 1, none⟩ = some (.slice (some ⟨r.gD, 0, none⟩) n r.cD) := hrw.cell 1
              have n2 : W5.cell? ⟨c2, 2, none⟩ = some (.int .i64 r.wr) := hrw.cell 2
              clear hrw k0 k1 k2 k3 k4
              go_region_with (first | (go_at_call 8; refine HSt.out.mono ?_; rintro e W6 ⟨m', r', bb, he, hM, hRf, hg, ho⟩; have he2 : e = .returned (.tuple #[.agg #[.slice (some ⟨r'.gB, 0, none⟩) N r'.cB, .slice (some ⟨r'.gD, 0, none⟩) n r'.cD, .int .i64 r'.wr], .bool bb]) := he; clear he; subst he2; have hr6 := HL5.out.dr.row.kept hM.kept (fun h1 => HL5.out.offm (.inl h1)); have u0 : W6.cell? ⟨c2, 0, none⟩ = some (.slice (some ⟨r.gB, 0, none⟩) N r.cB) := hr6.cell 0; have u1 : W6.cell? ⟨c2, 1, none⟩ = some (.slice (some ⟨r.gD, 0, none⟩) n r.cD) := hr6.cell 1; have u2 : W6.cell? ⟨c2, 2, none⟩ = some (.int .i64 r.wr) := hr6.cell 2; have p0 := hr6.thaw 0; have p1 := hr6.thaw 1; have p2 := hr6.thaw 2; have HM := hide hM; have HRf := hide hRf; have HG := hide hg; have HO := hide ho; clear hM hRf hg ho hr6))
              all_goals
                go_simp
                go_wp2
                go_roundw
                case rel => exact ⟨i + 1, m'.norm, r', by omega, by go_num, HL5.out.dr.next HM.out HRf.out HG.out HO.out, fun x hx => (HG.out x hx).elim (HIm.out.1 x) (fun h9 => Nat.le_trans (Nat.le_trans HIm.out.2 HW5.out) h9), by (have h9 := (only_setCells c2 0 [.slice (some ⟨r'.gB, 0, none⟩) N r'.cB, .slice (some ⟨r'.gD, 0, none⟩) n r'.cD, .int .i64 r'.wr] W6).size; exact Nat.le_trans (Nat.le_trans HIm.out.2 HW5.out) (Nat.le_trans HM.out.kept.size (Nat.le_of_eq h9.symm)))⟩
                case measure => simp [intOf]; omega
          · have t2 : decide ((i : Int) < 12) = false := decide_eq_false (by omega)
            have t2' : decide (i < 12) = false := decide_eq_false h2
            clear hL
            go_wp2_with (fail)
            go_meet
            case rel => exact ⟨m, r, HL.out.more (by omega), HIm.out.1⟩
        · have t1 : decide ((i : Int) < (len2 : Int)) = false := decide_eq_false (by omega)
          have t1' : decide (i < len2) = false := decide_eq_false h1
          clear hL
          go_wp2_with (fail)
          go_meet
          case rel => exact ⟨m, r, HL.out.more (by omega), HIm.out.1⟩

    case rest =>
      obtain ⟨k', s', hL', hS'⟩ := hcut
      obtain ⟨Y0, rfl⟩ : ∃ Y0, Y0 = wc := ⟨_, rfl⟩
      have HEv := hide (eve_of HLm.out hL' hS' HC2S.out HMS.out)
      have hNe : ((N : Nat) : Int) = 12288 := by rw [HN4.out]; rfl
      have HR1 : Hid (Calls Tryz.prog 19 #[.pointer (some ⟨b, 0, none⟩), .int .u32 0, .int .i64 12288] Y0 fun e w' => e = .returned (.tuple #[.slice (some ⟨Y0.heap.size, 0, none⟩) N N, .nilIface]) ∧ HoldsAt w' Y0.heap.size N 5 (readV m0 0 N) ∧ (∃ m', Looked m0 m' ∧ RamAt w' w.heap.size b P D m' ∧ (m'.z = m0.z ∨ ∃ x, m'.z = some x ∧ Y0.heap.size ≤ x)) ∧ Kept w.heap.size Y0 w' (m0.owns b P D)) := hide (by
        have h := read_z HEv.out.rm HEv.out.base 0 (by omega) N (by rw [HN4.out]; omega) (by rw [HN4.out, HEv.out.mn, Hn4.out]; omega)
        rw [hNe] at h
        exact h)
      have HR2 : Hid (∀ Y1, RamAt Y1 w.heap.size cc Q E k' → w.heap.size ≤ Y1.heap.size → Calls Tryz.prog 19 #[.pointer (some ⟨cc, 0, none⟩), .int .u32 0, .int .i64 12288] Y1 fun e w' => e = .returned (.tuple #[.slice (some ⟨Y1.heap.size, 0, none⟩) N N, .nilIface]) ∧ HoldsAt w' Y1.heap.size N 5 (readV k' 0 N) ∧ (∃ m', Looked k' m' ∧ RamAt w' w.heap.size cc Q E m' ∧ (m'.z = k'.z ∨ ∃ x, m'.z = some x ∧ Y1.heap.size ≤ x)) ∧ Kept w.heap.size Y1 w' (k'.owns cc Q E)) := hide (fun Y1 h1 h2 => by
        have h := read_z h1 h2 0 (by omega) N (by rw [HN4.out]; omega) (by rw [HN4.out, HEv.out.nn, HEv.out.mn, Hn4.out]; omega)
        rw [hNe] at h
        exact h)
      clear hL' hS' HLm HC2S HMS HLk HS0 hNe
      go_upto_region 21 with (first | (go_at_call 19; (with_reducible refine HR1.out.mono ?_); rintro e Y1 ⟨rfl, hx1, ⟨m1, hx2, hx3, hx4⟩, hx5⟩; have HR3 := hide (HR2.out Y1 (HEv.out.rk.other HEv.out.o1 hx5) (Nat.le_trans HEv.out.base hx5.size)); have H1 := hide hx1; have H2 := hide hx2; have H3 := hide hx3; have H4 := hide hx4; have H5 := hide hx5; clear hx1 hx2 hx3 hx4 hx5) | (go_at_call 19; (with_reducible refine HR3.out.mono ?_); rintro e Y2 ⟨rfl, hx1, ⟨k1, hx2, hx3, hx4⟩, hx5⟩; have HFi := hide (fin_of HEv.out H2.out H3.out H4.out H5.out H1.out hx2 hx3 hx4 hx5 hx1); clear hx1 hx2 hx3 hx4 hx5))
      have HSr := hide sure_any
      clear HEv HR1 HR2 HR3 H1 H2 H3 H4 H5
      generalize Y0.heap.size = ga at HFi ⊢
      generalize Y1.heap.size = gb at HFi ⊢
      obtain ⟨st1, hst1⟩ : ∃ st, txt m0.at 0 N = st := ⟨_, rfl⟩
      obtain ⟨st2, hst2⟩ : ∃ st, txt k'.at 0 N = st := ⟨_, rfl⟩
      have HTa : Hid (∀ V : World, V.heap[ga]? = Y2.heap[ga]? → (convert 28 9 (.slice (some ⟨ga, 0, none⟩) N N)).run Tryz.prog V = .ok (.string st1) V) := hide (fun V hV => by
        rw [← hst1]
        exact conv_row (f := fun j => m0.at (0 + j)) (fun j => HFi.out.ms _ _) (fun j hj => by rw [Nat.zero_add, cell_of_heap hV j, HFi.out.ha.cell hj, readV_lt hj, Nat.zero_add]))
      have HTb : Hid (∀ V : World, V.heap[gb]? = Y2.heap[gb]? → (convert 28 9 (.slice (some ⟨gb, 0, none⟩) N N)).run Tryz.prog V = .ok (.string st2) V) := hide (fun V hV => by
        rw [← hst2]
        exact conv_row (f := fun j => k'.at (0 + j)) (fun j => HFi.out.ks _ _) (fun j hj => by rw [Nat.zero_add, cell_of_heap hV j, HFi.out.hb.cell hj, readV_lt hj, Nat.zero_add]))
      have HTr : Hid (∀ V : World, V.heap[r0.gB]? = Y2.heap[r0.gB]? → (convert 28 9 (.slice (some ⟨r0.gB, 0, none⟩) N r0.cB)).run Tryz.prog V = .ok (.string st1) V) := hide (fun V hV => by
        rw [← hst1]
        exact conv_row (f := fun j => m0.at (0 + j)) (fun j => HFi.out.ms _ _) (fun j hj => (cell_of_heap hV (0 + j)).trans (HFi.out.hr.bytes.cell (j := 0 + j) (by omega))))
      have HTs : Hid (∀ V : World, V.heap[s'.gB]? = Y2.heap[s'.gB]? → (convert 28 9 (.slice (some ⟨s'.gB, 0, none⟩) N s'.cB)).run Tryz.prog V = .ok (.string st2) V) := hide (fun V hV => by
        rw [← hst2]
        exact conv_row (f := fun j => k'.at (0 + j)) (fun j => HFi.out.ks _ _) (fun j hj => (cell_of_heap hV (0 + j)).trans (HFi.out.hs.bytes.cell (j := 0 + j) (by omega))))
      have HEq : Hid ((∀ p, p < m1.n → ∀ o, o < 4096 → m1.dat p o = k1.dat p o) ↔ st1 = st2) := hide (by
        rw [← hst1, ← hst2, txt_eq (f := m0.at) (g := k'.at) (fun x => HFi.out.ms _ _) (fun x => HFi.out.ks _ _)]
        constructor
        · intro h x hx
          have h1 := h (x / 4096) (by rw [HFi.out.lm.n, HFi.out.mn, Hn4.out]; rw [HN4.out] at hx; omega) (x % 4096) (Nat.mod_lt _ (by omega))
          rw [HFi.out.lm.dat, HFi.out.lk.dat] at h1
          exact h1
        · intro h p hp o ho
          rw [HFi.out.lm.dat, HFi.out.lk.dat, m0.dat_at p o ho, k'.dat_at p o ho]
          rw [HFi.out.lm.n, HFi.out.mn, Hn4.out] at hp
          exact h _ (by rw [HN4.out]; omega))
      have HLt : Hid (∀ x, x = ga ∨ x = gb ∨ x = r0.gB ∨ x = s'.gB ∨ x = c ∨ x = c2 → x < Y2.heap.size) := hide (fun x hx => by
        rcases hx with e | e | e | e | e | e
        · rw [e]; exact HFi.out.ha.lt
        · rw [e]; exact HFi.out.hb.lt
        · rw [e]; exact HFi.out.hr.bytes.lt
        · rw [e]; exact HFi.out.hs.bytes.lt
        · rw [e]; exact HFi.out.rc.lt
        · rw [e]; exact HFi.out.rc2.lt)
      clear hst1 hst2
      by_cases hne : st1 = st2
      · subst hne
        refine wp_region_held_drew (S := (fun V : World => Hid (∀ x, x = ga ∨ x = gb ∨ x = r0.gB ∨ x = s'.gB ∨ x = c ∨ x = c2 → V.heap[x]? = Y2.heap[x]?))) (by kernel_rfl) ?_ (fun hHeld => ?_)
        · exact hide (fun x _ => rfl)
        obtain ⟨V, hV⟩ : ∃ V, Y2.drew = V := ⟨_, rfl⟩
        have HV : Hid (Below Y2.heap.size Y2 V) := hide (hV ▸ (Below.refl _ Y2).drew)
        have HSm := hide (same_z (HFi.out.rm.bl HV.out) (HFi.out.rk.bl HV.out) (Nat.le_trans HFi.out.base HV.out.size) HFi.out.nn HFi.out.o1 HFi.out.o2 (by rw [HFi.out.lm.dat]; exact HFi.out.ms) (by rw [HFi.out.lk.dat]; exact HFi.out.ks))
        rw [hV] at hHeld ⊢
        clear hV
        refine wpAnyH_take (i := 0) (oi := ?oi1) (v := .nilIface) ?hi1 (by kernel_rfl) (by kernel_rfl) (by kernel_rfl) ?hQ1 ?hy1 (by assumption) ?rest1
        case hi1 => (simp only [List.getElem?_toArray, List.getElem?_cons_zero]; rfl)
        case hQ1 => exact fun _ _ _ h => h
        case hy1 => exact Or.inl ⟨by rfl, by (intro w hSw; (try dsimp only at hSw); go_simp )⟩
        simp only [Act.put, List.setIfInBounds_toArray, List.set_cons_zero, List.set_cons_succ]
        refine wpAnyH_take (i := 1) (oi := ?oi2) (v := .bool true) ?hi2 (by kernel_rfl) (by kernel_rfl) (by kernel_rfl) ?hQ2 ?hy2 (by assumption) ?rest2
        case hi2 => (simp only [List.getElem?_toArray, List.getElem?_cons_zero, List.getElem?_cons_succ]; rfl)
        case hQ2 => exact fun _ _ _ h => h
        case hy2 => exact Or.inl ⟨by rfl, by (intro w hSw; (try dsimp only at hSw); go_simp )⟩
        simp only [Act.put, List.setIfInBounds_toArray, List.set_cons_zero, List.set_cons_succ]
        refine wpAnyH_take (i := 2) (oi := ?oi3) (v := .bool true) ?hi3 (by kernel_rfl) (by kernel_rfl) (by kernel_rfl) ?hQ3 ?hy3 (by assumption) ?rest3
        case hi3 => (simp only [List.getElem?_toArray, List.getElem?_cons_zero, List.getElem?_cons_succ]; rfl)
        case hQ3 => exact fun _ _ _ h => h
        case hy3 => exact Or.inl ⟨by rfl, by (intro w hSw; (try dsimp only at hSw); go_simp )⟩
        simp only [Act.put, List.setIfInBounds_toArray, List.set_cons_zero, List.set_cons_succ]
        refine wpAnyH_take (i := 3) (oi := ?oi4) (v := .nilIface) ?hi4 (by kernel_rfl) (by kernel_rfl) (by kernel_rfl) ?hQ4 ?hy4 (by assumption) ?rest4
        case hi4 => (simp only [List.getElem?_toArray, List.getElem?_cons_zero, List.getElem?_cons_succ]; rfl)
        case hQ4 => exact fun _ _ _ h => h
        case hy4 => exact Or.inl ⟨by rfl, by (intro w hSw; (try dsimp only at hSw); go_simp )⟩
        simp only [Act.put, List.setIfInBounds_toArray, List.set_cons_zero, List.set_cons_succ]
        refine wpAnyH_take (i := 4) (oi := ?oi5) (v := .bool true) ?hi5 (by kernel_rfl) (by kernel_rfl) (by kernel_rfl) ?hQ5 ?hy5 (by assumption) ?rest5
        case hi5 => (simp only [List.getElem?_toArray, List.getElem?_cons_zero, List.getElem?_cons_succ]; rfl)
        case hQ5 => exact fun _ _ _ h => h
        case hy5 => exact Or.inl ⟨by rfl, by (intro w hSw; (try dsimp only at hSw); go_simp )⟩
        simp only [Act.put, List.setIfInBounds_toArray, List.set_cons_zero, List.set_cons_succ]
        refine wpAnyH_take (i := 5) (oi := ?oi6) (v := .bool true) ?hi6 (by kernel_rfl) (by kernel_rfl) (by kernel_rfl) ?hQ6 ?hy6 (by assumption) ?rest6
        case hi6 => (simp only [List.getElem?_toArray, List.getElem?_cons_zero, List.getElem?_cons_succ]; rfl)
        case hQ6 => exact fun _ _ _ h => h
        case hy6 => exact Or.inl ⟨by rfl, by (intro w hSw; (try dsimp only at hSw); go_simp )⟩
        simp only [Act.put, List.setIfInBounds_toArray, List.set_cons_zero, List.set_cons_succ]
        refine wpAnyH_take (i := 6) (oi := ?oi7) (v := .bool true) ?hi7 (by kernel_rfl) (by kernel_rfl) (by kernel_rfl) ?hQ7 ?hy7 (by assumption) ?rest7
        case hi7 => (simp only [List.getElem?_toArray, List.getElem?_cons_zero, List.getElem?_cons_succ]; rfl)
        case hQ7 => exact fun _ _ _ h => h
        case hy7 => exact Or.inl ⟨by rfl, by (intro w hSw; (try dsimp only at hSw); go_simp )⟩
        simp only [Act.put, List.setIfInBounds_toArray, List.set_cons_zero, List.set_cons_succ]
        refine wpAnyH_take (i := 7) (oi := ?oi8) (v := .slice (some ⟨ga, 0, none⟩) N N) ?hi8 (by kernel_rfl) (by kernel_rfl) (by kernel_rfl) ?hQ8 ?hy8 (by assumption) ?rest8
        case hi8 => (simp only [List.getElem?_toArray, List.getElem?_cons_zero, List.getElem?_cons_succ]; rfl)
        case hQ8 => exact fun _ _ _ h => h
        case hy8 => exact Or.inl ⟨by rfl, by (intro w hSw; (try dsimp only at hSw); go_simp )⟩
        simp only [Act.put, List.setIfInBounds_toArray, List.set_cons_zero, List.set_cons_succ]
        refine wpAnyH_take (i := 8) (oi := ?oi9) (v := .string st1) ?hi9 (by kernel_rfl) (by kernel_rfl) (by kernel_rfl) ?hQ9 ?hy9 (by assumption) ?rest9
        case hi9 => (simp only [List.getElem?_toArray, List.getElem?_cons_zero, List.getElem?_cons_succ]; rfl)
        case hQ9 => exact fun _ _ _ h => h
        case hy9 => exact Or.inl ⟨by rfl, by (intro V9 hV9; have hc9 := HTa.out V9 (Hid.out hV9 _ (.inl rfl)); go_simp)⟩
        simp only [Act.put, List.setIfInBounds_toArray, List.set_cons_zero, List.set_cons_succ]
        refine wpAnyH_take (i := 9) (oi := ?oi10) (v := .pointer (some ⟨c, 0, none⟩)) ?hi10 (by kernel_rfl) (by kernel_rfl) (by kernel_rfl) ?hQ10 ?hy10 (by assumption) ?rest10
        case hi10 => (simp only [List.getElem?_toArray, List.getElem?_cons_zero, List.getElem?_cons_succ]; rfl)
        case hQ10 => exact fun _ _ _ h => h
        case hy10 => exact Or.inl ⟨by rfl, by (intro w hSw; (try dsimp only at hSw); go_simp )⟩
        simp only [Act.put, List.setIfInBounds_toArray, List.set_cons_zero, List.set_cons_succ]
        refine wpAnyH_take (i := 10) (oi := ?oi11) (v := .slice (some ⟨r0.gB, 0, none⟩) N r0.cB) ?hi11 (by kernel_rfl) (by kernel_rfl) (by kernel_rfl) ?hQ11 ?hy11 (by assumption) ?rest11
        case hi11 => (simp only [List.getElem?_toArray, List.getElem?_cons_zero, List.getElem?_cons_succ]; rfl)
        case hQ11 => exact fun _ _ _ h => h
        case hy11 => exact Or.inl ⟨by rfl, by (intro V9 hV9; have hc9 : V9.cell? ⟨c, 0, none⟩ = some (.slice (some ⟨r0.gB, 0, none⟩) N r0.cB) := (cell_of_heap (Hid.out hV9 _ (.inr (.inr (.inr (.inr (.inl rfl)))))) 0).trans (HFi.out.rc.cell 0); go_simp)⟩
        simp only [Act.put, List.setIfInBounds_toArray, List.set_cons_zero, List.set_cons_succ]
        refine wpAnyH_take (i := 11) (oi := ?oi12) (v := .string st1) ?hi12 (by kernel_rfl) (by kernel_rfl) (by kernel_rfl) ?hQ12 ?hy12 (by assumption) ?rest12
        case hi12 => (simp only [List.getElem?_toArray, List.getElem?_cons_zero, List.getElem?_cons_succ]; rfl)
        case hQ12 => exact fun _ _ _ h => h
        case hy12 => exact Or.inl ⟨by rfl, by (intro V9 hV9; have hc9 := HTr.out V9 (Hid.out hV9 _ (.inr (.inr (.inl rfl)))); go_simp)⟩
        simp only [Act.put, List.setIfInBounds_toArray, List.set_cons_zero, List.set_cons_succ]
        refine wpAnyH_take (i := 12) (oi := ?oi13) (v := .bool true) ?hi13 (by kernel_rfl) (by kernel_rfl) (by kernel_rfl) ?hQ13 ?hy13 (by assumption) ?rest13
        case hi13 => (simp only [List.getElem?_toArray, List.getElem?_cons_zero, List.getElem?_cons_succ]; rfl)
        case hQ13 => exact fun _ _ _ h => h
        case hy13 => exact Or.inl ⟨by rfl, by (intro w hSw; (try dsimp only at hSw); go_simp )⟩
        simp only [Act.put, List.setIfInBounds_toArray, List.set_cons_zero, List.set_cons_succ]
        refine wpAnyH_take (i := 13) (oi := ?oi14) (v := .bool true) ?hi14 (by kernel_rfl) (by kernel_rfl) (by kernel_rfl) ?hQ14 ?hy14 (by assumption) ?rest14
        case hi14 => (simp only [List.getElem?_toArray, List.getElem?_cons_zero, List.getElem?_cons_succ]; rfl)
        case hQ14 => exact fun _ _ _ h => h
        case hy14 => exact Or.inl ⟨by rfl, by (intro w hSw; (try dsimp only at hSw); go_simp )⟩
        simp only [Act.put, List.setIfInBounds_toArray, List.set_cons_zero, List.set_cons_succ]
        refine wpAnyH_take (i := 14) (oi := ?oi15) (v := .bool true) ?hi15 (by kernel_rfl) (by kernel_rfl) (by kernel_rfl) ?hQ15 ?hy15 (by assumption) ?rest15
        case hi15 => (simp only [List.getElem?_toArray, List.getElem?_cons_zero, List.getElem?_cons_succ]; rfl)
        case hQ15 => exact fun _ _ _ h => h
        case hy15 => exact Or.inl ⟨by rfl, by (intro w hSw; (try dsimp only at hSw); go_simp )⟩
        simp only [Act.put, List.setIfInBounds_toArray, List.set_cons_zero, List.set_cons_succ]
        refine wpAnyH_take (i := 15) (oi := ?oi16) (v := .slice (some ⟨gb, 0, none⟩) N N) ?hi16 (by kernel_rfl) (by kernel_rfl) (by kernel_rfl) ?hQ16 ?hy16 (by assumption) ?rest16
        case hi16 => (simp only [List.getElem?_toArray, List.getElem?_cons_zero, List.getElem?_cons_succ]; rfl)
        case hQ16 => exact fun _ _ _ h => h
        case hy16 => exact Or.inl ⟨by rfl, by (intro w hSw; (try dsimp only at hSw); go_simp )⟩
        simp only [Act.put, List.setIfInBounds_toArray, List.set_cons_zero, List.set_cons_succ]
        refine wpAnyH_take (i := 16) (oi := ?oi17) (v := .string st1) ?hi17 (by kernel_rfl) (by kernel_rfl) (by kernel_rfl) ?hQ17 ?hy17 (by assumption) ?rest17
        case hi17 => (simp only [List.getElem?_toArray, List.getElem?_cons_zero, List.getElem?_cons_succ]; rfl)
        case hQ17 => exact fun _ _ _ h => h
        case hy17 => exact Or.inl ⟨by rfl, by (intro V9 hV9; have hc9 := HTb.out V9 (Hid.out hV9 _ (.inr (.inl rfl))); go_simp)⟩
        simp only [Act.put, List.setIfInBounds_toArray, List.set_cons_zero, List.set_cons_succ]
        refine wpAnyH_take (i := 17) (oi := ?oi18) (v := .pointer (some ⟨c2, 0, none⟩)) ?hi18 (by kernel_rfl) (by kernel_rfl) (by kernel_rfl) ?hQ18 ?hy18 (by assumption) ?rest18
        case hi18 => (simp only [List.getElem?_toArray, List.getElem?_cons_zero, List.getElem?_cons_succ]; rfl)
        case hQ18 => exact fun _ _ _ h => h
        case hy18 => exact Or.inl ⟨by rfl, by (intro w hSw; (try dsimp only at hSw); go_simp )⟩
        simp only [Act.put, List.setIfInBounds_toArray, List.set_cons_zero, List.set_cons_succ]
        refine wpAnyH_take (i := 18) (oi := ?oi19) (v := .slice (some ⟨s'.gB, 0, none⟩) N s'.cB) ?hi19 (by kernel_rfl) (by kernel_rfl) (by kernel_rfl) ?hQ19 ?hy19 (by assumption) ?rest19
        case hi19 => (simp only [List.getElem?_toArray, List.getElem?_cons_zero, List.getElem?_cons_succ]; rfl)
        case hQ19 => exact fun _ _ _ h => h
        case hy19 => exact Or.inl ⟨by rfl, by (intro V9 hV9; have hc9 : V9.cell? ⟨c2, 0, none⟩ = some (.slice (some ⟨s'.gB, 0, none⟩) N s'.cB) := (cell_of_heap (Hid.out hV9 _ (.inr (.inr (.inr (.inr (.inr rfl)))))) 0).trans (HFi.out.rc2.cell 0); go_simp)⟩
        simp only [Act.put, List.setIfInBounds_toArray, List.set_cons_zero, List.set_cons_succ]
        refine wpAnyH_take (i := 19) (oi := ?oi20) (v := .string st1) ?hi20 (by kernel_rfl) (by kernel_rfl) (by kernel_rfl) ?hQ20 ?hy20 (by assumption) ?rest20
        case hi20 => (simp only [List.getElem?_toArray, List.getElem?_cons_zero, List.getElem?_cons_succ]; rfl)
        case hQ20 => exact fun _ _ _ h => h
        case hy20 => exact Or.inl ⟨by rfl, by (intro V9 hV9; have hc9 := HTs.out V9 (Hid.out hV9 _ (.inr (.inr (.inr (.inl rfl))))); go_simp)⟩
        simp only [Act.put, List.setIfInBounds_toArray, List.set_cons_zero, List.set_cons_succ]
        refine wpAnyH_take (i := 20) (oi := ?oi21) (v := .bool true) ?hi21 (by kernel_rfl) (by kernel_rfl) (by kernel_rfl) ?hQ21 ?hy21 (by assumption) ?rest21
        case hi21 => (simp only [List.getElem?_toArray, List.getElem?_cons_zero, List.getElem?_cons_succ]; rfl)
        case hQ21 => exact fun _ _ _ h => h
        case hy21 => exact Or.inl ⟨by rfl, by (intro w hSw; (try dsimp only at hSw); go_simp )⟩
        simp only [Act.put, List.setIfInBounds_toArray, List.set_cons_zero, List.set_cons_succ]
        refine wpAnyH_take (i := 21) (oi := ?oi22) (v := .bool true) ?hi22 (by kernel_rfl) (by kernel_rfl) (by kernel_rfl) ?hQ22 ?hy22 (by assumption) ?rest22
        case hi22 => (simp only [List.getElem?_toArray, List.getElem?_cons_zero, List.getElem?_cons_succ]; rfl)
        case hQ22 => exact fun _ _ _ h => h
        case hy22 => exact Or.inl ⟨by rfl, by (intro w hSw; (try dsimp only at hSw); go_simp )⟩
        simp only [Act.put, List.setIfInBounds_toArray, List.set_cons_zero, List.set_cons_succ]
        refine wpAnyH_take (i := 22) (oi := ?oi23) (v := .bool true) ?hi23 (by kernel_rfl) (by kernel_rfl) (by kernel_rfl) ?hQ23 ?hy23 (by assumption) ?rest23
        case hi23 => (simp only [List.getElem?_toArray, List.getElem?_cons_zero, List.getElem?_cons_succ]; rfl)
        case hQ23 => exact fun _ _ _ h => h
        case hy23 => exact Or.inl ⟨by rfl, by (intro w hSw; (try dsimp only at hSw); go_simp )⟩
        simp only [Act.put, List.setIfInBounds_toArray, List.set_cons_zero, List.set_cons_succ]
        refine wpAnyH_take (i := 23) (oi := ?oi24) (v := .pointer (some ⟨b, 0, none⟩)) ?hi24 (by kernel_rfl) (by kernel_rfl) (by kernel_rfl) ?hQ24 ?hy24 (by assumption) ?rest24
        case hi24 => (simp only [List.getElem?_toArray, List.getElem?_cons_zero, List.getElem?_cons_succ]; rfl)
        case hQ24 => exact fun _ _ _ h => h
        case hy24 => exact Or.inl ⟨by rfl, by (intro w hSw; (try dsimp only at hSw); go_simp )⟩
        simp only [Act.put, List.setIfInBounds_toArray, List.set_cons_zero, List.set_cons_succ]
        refine wpAnyH_take (i := 24) (oi := ?oi25) (v := .pointer (some ⟨cc, 0, none⟩)) ?hi25 (by kernel_rfl) (by kernel_rfl) (by kernel_rfl) ?hQ25 ?hy25 (by assumption) ?rest25
        case hi25 => (simp only [List.getElem?_toArray, List.getElem?_cons_zero, List.getElem?_cons_succ]; rfl)
        case hQ25 => exact fun _ _ _ h => h
        case hy25 => exact Or.inl ⟨by rfl, by (intro w hSw; (try dsimp only at hSw); go_simp )⟩
        simp only [Act.put, List.setIfInBounds_toArray, List.set_cons_zero, List.set_cons_succ]
        refine wpAnyH_take (i := 26) (oi := ?oi26) (v := .slice (some ⟨ga, 0, none⟩) N N) ?hi26 (by kernel_rfl) (by kernel_rfl) (by kernel_rfl) ?hQ26 ?hy26 (by assumption) ?rest26
        case hi26 => (simp only [List.getElem?_toArray, List.getElem?_cons_zero, List.getElem?_cons_succ]; rfl)
        case hQ26 => exact fun _ _ _ h => h
        case hy26 => exact Or.inl ⟨by rfl, by (intro w hSw; (try dsimp only at hSw); go_simp )⟩
        simp only [Act.put, List.setIfInBounds_toArray, List.set_cons_zero, List.set_cons_succ]
        refine wpAnyH_take (i := 27) (oi := ?oi27) (v := .string st1) ?hi27 (by kernel_rfl) (by kernel_rfl) (by kernel_rfl) ?hQ27 ?hy27 (by assumption) ?rest27
        case hi27 => (simp only [List.getElem?_toArray, List.getElem?_cons_zero, List.getElem?_cons_succ]; rfl)
        case hQ27 => exact fun _ _ _ h => h
        case hy27 => exact Or.inl ⟨by rfl, by (intro V9 hV9; have hc9 := HTa.out V9 (Hid.out hV9 _ (.inl rfl)); go_simp)⟩
        simp only [Act.put, List.setIfInBounds_toArray, List.set_cons_zero, List.set_cons_succ]
        refine wpAnyH_take (i := 28) (oi := ?oi28) (v := .slice (some ⟨gb, 0, none⟩) N N) ?hi28 (by kernel_rfl) (by kernel_rfl) (by kernel_rfl) ?hQ28 ?hy28 (by assumption) ?rest28
        case hi28 => (simp only [List.getElem?_toArray, List.getElem?_cons_zero, List.getElem?_cons_succ]; rfl)
        case hQ28 => exact fun _ _ _ h => h
        case hy28 => exact Or.inl ⟨by rfl, by (intro w hSw; (try dsimp only at hSw); go_simp )⟩
        simp only [Act.put, List.setIfInBounds_toArray, List.set_cons_zero, List.set_cons_succ]
        refine wpAnyH_take (i := 29) (oi := ?oi29) (v := .string st1) ?hi29 (by kernel_rfl) (by kernel_rfl) (by kernel_rfl) ?hQ29 ?hy29 (by assumption) ?rest29
        case hi29 => (simp only [List.getElem?_toArray, List.getElem?_cons_zero, List.getElem?_cons_succ]; rfl)
        case hQ29 => exact fun _ _ _ h => h
        case hy29 => exact Or.inl ⟨by rfl, by (intro V9 hV9; have hc9 := HTb.out V9 (Hid.out hV9 _ (.inr (.inl rfl))); go_simp)⟩
        simp only [Act.put, List.setIfInBounds_toArray, List.set_cons_zero, List.set_cons_succ]
        refine wpAnyH_take (i := 30) (oi := ?oi30) (v := .bool true) ?hi30 (by kernel_rfl) (by kernel_rfl) (by kernel_rfl) ?hQ30 ?hy30 (by assumption) ?rest30
        case hi30 => (simp only [List.getElem?_toArray, List.getElem?_cons_zero, List.getElem?_cons_succ]; rfl)
        case hQ30 => exact fun _ _ _ h => h
        case hy30 => exact Or.inl ⟨by rfl, by (intro w hSw; (try dsimp only at hSw); go_simp )⟩
        simp only [Act.put, List.setIfInBounds_toArray, List.set_cons_zero, List.set_cons_succ]
        refine wpAnyH_ready (rs := [25]) (by kernel_rfl) (by simp) ?_
        refine AllReadyH.cons (o := ?oi31) ?hi31 (fun K hK => ?_) AllReadyH.nil
        case hi31 => (simp only [List.getElem?_toArray, List.getElem?_cons_zero, List.getElem?_cons_succ]; rfl)
        rw [if_pos (by rfl)]
        go_simp
        (with_reducible refine HSm.out.mono ?_)
        rintro e Va ⟨⟨sm, rfl, hsm⟩, hx1, hx2⟩
        obtain rfl : sm = true := by exact hsm.2 (HEq.out.2 rfl)
        have hH2 : Hid (∀ x, x = ga ∨ x = gb ∨ x = r0.gB ∨ x = s'.gB ∨ x = c ∨ x = c2 → Va.heap[x]? = Y2.heap[x]?) := hide (fun x hx => (hx2.other x (Nat.lt_of_lt_of_le (HLt.out x hx) HV.out.size) (HFi.out.na x hx)).trans (Hid.out hHeld x hx))
        have HVa := hide hx2
        clear hHeld hsm hx1 hx2 HSm
        go_simp
        refine hK.out _ _ ?_ (fun hHeld => ?_)
        · exact hH2
        clear hK K
        clear hH2
        refine wpAnyH_take (i := 31) (oi := ?oi32) (v := .bool true) ?hi32 (by kernel_rfl) (by kernel_rfl) (by kernel_rfl) ?hQ32 ?hy32 (by assumption) ?rest32
        case hi32 => (simp only [List.getElem?_toArray, List.getElem?_cons_zero, List.getElem?_cons_succ]; rfl)
        case hQ32 => exact fun _ _ _ h => h
        case hy32 => exact Or.inl ⟨by rfl, by (intro w hSw; (try dsimp only at hSw); go_simp )⟩
        simp only [Act.put, List.setIfInBounds_toArray, List.set_cons_zero, List.set_cons_succ]
        refine wpAnyH_take (i := 32) (oi := ?oi33) (v := .bool true) ?hi33 (by kernel_rfl) (by kernel_rfl) (by kernel_rfl) ?hQ33 ?hy33 (by assumption) ?rest33
        case hi33 => (simp only [List.getElem?_toArray, List.getElem?_cons_zero, List.getElem?_cons_succ]; rfl)
        case hQ33 => exact fun _ _ _ h => h
        case hy33 => exact Or.inl ⟨by rfl, by (intro w hSw; (try dsimp only at hSw); go_simp )⟩
        simp only [Act.put, List.setIfInBounds_toArray, List.set_cons_zero, List.set_cons_succ]
        refine wpAnyH_take (i := 33) (oi := ?oi34) (v := .bool true) ?hi34 (by kernel_rfl) (by kernel_rfl) (by kernel_rfl) ?hQ34 ?hy34 (by assumption) ?rest34
        case hi34 => (simp only [List.getElem?_toArray, List.getElem?_cons_zero, List.getElem?_cons_succ]; rfl)
        case hQ34 => exact fun _ _ _ h => h
        case hy34 => exact Or.inl ⟨by rfl, by (intro w hSw; (try dsimp only at hSw); go_simp )⟩
        simp only [Act.put, List.setIfInBounds_toArray, List.set_cons_zero, List.set_cons_succ]
        refine wpAnyH_ready (rs := [34]) (by kernel_rfl) (by simp) ?_
        refine AllReadyH.cons (o := ?oi35) ?hi35 (fun K hK => ?_) AllReadyH.nil
        case hi35 => (simp only [List.getElem?_toArray, List.getElem?_cons_zero, List.getElem?_cons_succ]; rfl)
        rw [if_pos (by rfl)]
        go_simp
        (with_reducible refine (HSr.out _).mono ?_)
        rintro e Vb ⟨rfl, hbc⟩
        have hH2 : Hid (∀ x, x = ga ∨ x = gb ∨ x = r0.gB ∨ x = s'.gB ∨ x = c ∨ x = c2 → Vb.heap[x]? = Y2.heap[x]?) := hide (fun x hx => (hbc.block x (Nat.lt_of_lt_of_le (HLt.out x hx) (Nat.le_trans HV.out.size HVa.out.size))).trans (Hid.out hHeld x hx))
        have HVb := hide hbc
        clear hHeld hbc
        go_simp
        refine hK.out _ _ ?_ (fun hHeld => ?_)
        · exact hH2
        clear hK K
        clear hH2
        refine wpAnyH_take (i := 35) (oi := ?oi36) (v := .bool true) ?hi36 (by kernel_rfl) (by kernel_rfl) (by kernel_rfl) ?hQ36 ?hy36 (by assumption) ?rest36
        case hi36 => (simp only [List.getElem?_toArray, List.getElem?_cons_zero, List.getElem?_cons_succ]; rfl)
        case hQ36 => exact fun _ _ _ h => h
        case hy36 => exact Or.inl ⟨by rfl, by (intro w hSw; (try dsimp only at hSw); go_simp )⟩
        simp only [Act.put, List.setIfInBounds_toArray, List.set_cons_zero, List.set_cons_succ]
        refine wpAnyH_take (i := 36) (oi := ?oi37) (v := .bool true) ?hi37 (by kernel_rfl) (by kernel_rfl) (by kernel_rfl) ?hQ37 ?hy37 (by assumption) ?rest37
        case hi37 => (simp only [List.getElem?_toArray, List.getElem?_cons_zero, List.getElem?_cons_succ]; rfl)
        case hQ37 => exact fun _ _ _ h => h
        case hy37 => exact Or.inl ⟨by rfl, by (intro w hSw; (try dsimp only at hSw); go_simp )⟩
        simp only [Act.put, List.setIfInBounds_toArray, List.set_cons_zero, List.set_cons_succ]
        refine wpAnyH_done (by kernel_rfl) ?_ _
        go_wp2
        go_ret
        have hbe := (HFi.out.bel.trans (HV.out.mono HFi.out.base)).trans HVa.out.below
        exact ⟨rfl, hbe.trans (HVb.out.mono hbe.size)⟩

      · skip
        refine wp_region_held_drew (S := (fun V : World => Hid (∀ x, x = ga ∨ x = gb ∨ x = r0.gB ∨ x = s'.gB ∨ x = c ∨ x = c2 → V.heap[x]? = Y2.heap[x]?))) (by kernel_rfl) ?_ (fun hHeld => ?_)
        · exact hide (fun x _ => rfl)
        obtain ⟨V, hV⟩ : ∃ V, Y2.drew = V := ⟨_, rfl⟩
        have HV : Hid (Below Y2.heap.size Y2 V) := hide (hV ▸ (Below.refl _ Y2).drew)
        have HSm := hide (same_z (HFi.out.rm.bl HV.out) (HFi.out.rk.bl HV.out) (Nat.le_trans HFi.out.base HV.out.size) HFi.out.nn HFi.out.o1 HFi.out.o2 (by rw [HFi.out.lm.dat]; exact HFi.out.ms) (by rw [HFi.out.lk.dat]; exact HFi.out.ks))
        rw [hV] at hHeld ⊢
        clear hV
        refine wpAnyH_take (i := 0) (oi := ?oi38) (v := .nilIface) ?hi38 (by kernel_rfl) (by kernel_rfl) (by kernel_rfl) ?hQ38 ?hy38 (by assumption) ?rest38
        case hi38 => (simp only [List.getElem?_toArray, List.getElem?_cons_zero]; rfl)
        case hQ38 => exact fun _ _ _ h => h
        case hy38 => exact Or.inl ⟨by rfl, by (intro w hSw; (try dsimp only at hSw); go_simp )⟩
        simp only [Act.put, List.setIfInBounds_toArray, List.set_cons_zero, List.set_cons_succ]
        refine wpAnyH_take (i := 1) (oi := ?oi39) (v := .bool true) ?hi39 (by kernel_rfl) (by kernel_rfl) (by kernel_rfl) ?hQ39 ?hy39 (by assumption) ?rest39
        case hi39 => (simp only [List.getElem?_toArray, List.getElem?_cons_zero, List.getElem?_cons_succ]; rfl)
        case hQ39 => exact fun _ _ _ h => h
        case hy39 => exact Or.inl ⟨by rfl, by (intro w hSw; (try dsimp only at hSw); go_simp )⟩
        simp only [Act.put, List.setIfInBounds_toArray, List.set_cons_zero, List.set_cons_succ]
        refine wpAnyH_take (i := 2) (oi := ?oi40) (v := .bool true) ?hi40 (by kernel_rfl) (by kernel_rfl) (by kernel_rfl) ?hQ40 ?hy40 (by assumption) ?rest40
        case hi40 => (simp only [List.getElem?_toArray, List.getElem?_cons_zero, List.getElem?_cons_succ]; rfl)
        case hQ40 => exact fun _ _ _ h => h
        case hy40 => exact Or.inl ⟨by rfl, by (intro w hSw; (try dsimp only at hSw); go_simp )⟩
        simp only [Act.put, List.setIfInBounds_toArray, List.set_cons_zero, List.set_cons_succ]
        refine wpAnyH_take (i := 3) (oi := ?oi41) (v := .nilIface) ?hi41 (by kernel_rfl) (by kernel_rfl) (by kernel_rfl) ?hQ41 ?hy41 (by assumption) ?rest41
        case hi41 => (simp only [List.getElem?_toArray, List.getElem?_cons_zero, List.getElem?_cons_succ]; rfl)
        case hQ41 => exact fun _ _ _ h => h
        case hy41 => exact Or.inl ⟨by rfl, by (intro w hSw; (try dsimp only at hSw); go_simp )⟩
        simp only [Act.put, List.setIfInBounds_toArray, List.set_cons_zero, List.set_cons_succ]
        refine wpAnyH_take (i := 4) (oi := ?oi42) (v := .bool true) ?hi42 (by kernel_rfl) (by kernel_rfl) (by kernel_rfl) ?hQ42 ?hy42 (by assumption) ?rest42
        case hi42 => (simp only [List.getElem?_toArray, List.getElem?_cons_zero, List.getElem?_cons_succ]; rfl)
        case hQ42 => exact fun _ _ _ h => h
        case hy42 => exact Or.inl ⟨by rfl, by (intro w hSw; (try dsimp only at hSw); go_simp )⟩
        simp only [Act.put, List.setIfInBounds_toArray, List.set_cons_zero, List.set_cons_succ]
        refine wpAnyH_take (i := 5) (oi := ?oi43) (v := .bool true) ?hi43 (by kernel_rfl) (by kernel_rfl) (by kernel_rfl) ?hQ43 ?hy43 (by assumption) ?rest43
        case hi43 => (simp only [List.getElem?_toArray, List.getElem?_cons_zero, List.getElem?_cons_succ]; rfl)
        case hQ43 => exact fun _ _ _ h => h
        case hy43 => exact Or.inl ⟨by rfl, by (intro w hSw; (try dsimp only at hSw); go_simp )⟩
        simp only [Act.put, List.setIfInBounds_toArray, List.set_cons_zero, List.set_cons_succ]
        refine wpAnyH_take (i := 6) (oi := ?oi44) (v := .bool true) ?hi44 (by kernel_rfl) (by kernel_rfl) (by kernel_rfl) ?hQ44 ?hy44 (by assumption) ?rest44
        case hi44 => (simp only [List.getElem?_toArray, List.getElem?_cons_zero, List.getElem?_cons_succ]; rfl)
        case hQ44 => exact fun _ _ _ h => h
        case hy44 => exact Or.inl ⟨by rfl, by (intro w hSw; (try dsimp only at hSw); go_simp )⟩
        simp only [Act.put, List.setIfInBounds_toArray, List.set_cons_zero, List.set_cons_succ]
        refine wpAnyH_take (i := 7) (oi := ?oi45) (v := .slice (some ⟨ga, 0, none⟩) N N) ?hi45 (by kernel_rfl) (by kernel_rfl) (by kernel_rfl) ?hQ45 ?hy45 (by assumption) ?rest45
        case hi45 => (simp only [List.getElem?_toArray, List.getElem?_cons_zero, List.getElem?_cons_succ]; rfl)
        case hQ45 => exact fun _ _ _ h => h
        case hy45 => exact Or.inl ⟨by rfl, by (intro w hSw; (try dsimp only at hSw); go_simp )⟩
        simp only [Act.put, List.setIfInBounds_toArray, List.set_cons_zero, List.set_cons_succ]
        refine wpAnyH_take (i := 8) (oi := ?oi46) (v := .string st1) ?hi46 (by kernel_rfl) (by kernel_rfl) (by kernel_rfl) ?hQ46 ?hy46 (by assumption) ?rest46
        case hi46 => (simp only [List.getElem?_toArray, List.getElem?_cons_zero, List.getElem?_cons_succ]; rfl)
        case hQ46 => exact fun _ _ _ h => h
        case hy46 => exact Or.inl ⟨by rfl, by (intro V9 hV9; have hc9 := HTa.out V9 (Hid.out hV9 _ (.inl rfl)); go_simp)⟩
        simp only [Act.put, List.setIfInBounds_toArray, List.set_cons_zero, List.set_cons_succ]
        refine wpAnyH_take (i := 9) (oi := ?oi47) (v := .pointer (some ⟨c, 0, none⟩)) ?hi47 (by kernel_rfl) (by kernel_rfl) (by kernel_rfl) ?hQ47 ?hy47 (by assumption) ?rest47
        case hi47 => (simp only [List.getElem?_toArray, List.getElem?_cons_zero, List.getElem?_cons_succ]; rfl)
        case hQ47 => exact fun _ _ _ h => h
        case hy47 => exact Or.inl ⟨by rfl, by (intro w hSw; (try dsimp only at hSw); go_simp )⟩
        simp only [Act.put, List.setIfInBounds_toArray, List.set_cons_zero, List.set_cons_succ]
        refine wpAnyH_take (i := 10) (oi := ?oi48) (v := .slice (some ⟨r0.gB, 0, none⟩) N r0.cB) ?hi48 (by kernel_rfl) (by kernel_rfl) (by kernel_rfl) ?hQ48 ?hy48 (by assumption) ?rest48
        case hi48 => (simp only [List.getElem?_toArray, List.getElem?_cons_zero, List.getElem?_cons_succ]; rfl)
        case hQ48 => exact fun _ _ _ h => h
        case hy48 => exact Or.inl ⟨by rfl, by (intro V9 hV9; have hc9 : V9.cell? ⟨c, 0, none⟩ = some (.slice (some ⟨r0.gB, 0, none⟩) N r0.cB) := (cell_of_heap (Hid.out hV9 _ (.inr (.inr (.inr (.inr (.inl rfl)))))) 0).trans (HFi.out.rc.cell 0); go_simp)⟩
        simp only [Act.put, List.setIfInBounds_toArray, List.set_cons_zero, List.set_cons_succ]
        refine wpAnyH_take (i := 11) (oi := ?oi49) (v := .string st1) ?hi49 (by kernel_rfl) (by kernel_rfl) (by kernel_rfl) ?hQ49 ?hy49 (by assumption) ?rest49
        case hi49 => (simp only [List.getElem?_toArray, List.getElem?_cons_zero, List.getElem?_cons_succ]; rfl)
        case hQ49 => exact fun _ _ _ h => h
        case hy49 => exact Or.inl ⟨by rfl, by (intro V9 hV9; have hc9 := HTr.out V9 (Hid.out hV9 _ (.inr (.inr (.inl rfl)))); go_simp)⟩
        simp only [Act.put, List.setIfInBounds_toArray, List.set_cons_zero, List.set_cons_succ]
        refine wpAnyH_take (i := 12) (oi := ?oi50) (v := .bool true) ?hi50 (by kernel_rfl) (by kernel_rfl) (by kernel_rfl) ?hQ50 ?hy50 (by assumption) ?rest50
        case hi50 => (simp only [List.getElem?_toArray, List.getElem?_cons_zero, List.getElem?_cons_succ]; rfl)
        case hQ50 => exact fun _ _ _ h => h
        case hy50 => exact Or.inl ⟨by rfl, by (intro w hSw; (try dsimp only at hSw); go_simp )⟩
        simp only [Act.put, List.setIfInBounds_toArray, List.set_cons_zero, List.set_cons_succ]
        refine wpAnyH_take (i := 13) (oi := ?oi51) (v := .bool true) ?hi51 (by kernel_rfl) (by kernel_rfl) (by kernel_rfl) ?hQ51 ?hy51 (by assumption) ?rest51
        case hi51 => (simp only [List.getElem?_toArray, List.getElem?_cons_zero, List.getElem?_cons_succ]; rfl)
        case hQ51 => exact fun _ _ _ h => h
        case hy51 => exact Or.inl ⟨by rfl, by (intro w hSw; (try dsimp only at hSw); go_simp )⟩
        simp only [Act.put, List.setIfInBounds_toArray, List.set_cons_zero, List.set_cons_succ]
        refine wpAnyH_take (i := 14) (oi := ?oi52) (v := .bool true) ?hi52 (by kernel_rfl) (by kernel_rfl) (by kernel_rfl) ?hQ52 ?hy52 (by assumption) ?rest52
        case hi52 => (simp only [List.getElem?_toArray, List.getElem?_cons_zero, List.getElem?_cons_succ]; rfl)
        case hQ52 => exact fun _ _ _ h => h
        case hy52 => exact Or.inl ⟨by rfl, by (intro w hSw; (try dsimp only at hSw); go_simp )⟩
        simp only [Act.put, List.setIfInBounds_toArray, List.set_cons_zero, List.set_cons_succ]
        refine wpAnyH_take (i := 15) (oi := ?oi53) (v := .slice (some ⟨gb, 0, none⟩) N N) ?hi53 (by kernel_rfl) (by kernel_rfl) (by kernel_rfl) ?hQ53 ?hy53 (by assumption) ?rest53
        case hi53 => (simp only [List.getElem?_toArray, List.getElem?_cons_zero, List.getElem?_cons_succ]; rfl)
        case hQ53 => exact fun _ _ _ h => h
        case hy53 => exact Or.inl ⟨by rfl, by (intro w hSw; (try dsimp only at hSw); go_simp )⟩
        simp only [Act.put, List.setIfInBounds_toArray, List.set_cons_zero, List.set_cons_succ]
        refine wpAnyH_take (i := 16) (oi := ?oi54) (v := .string st2) ?hi54 (by kernel_rfl) (by kernel_rfl) (by kernel_rfl) ?hQ54 ?hy54 (by assumption) ?rest54
        case hi54 => (simp only [List.getElem?_toArray, List.getElem?_cons_zero, List.getElem?_cons_succ]; rfl)
        case hQ54 => exact fun _ _ _ h => h
        case hy54 => exact Or.inl ⟨by rfl, by (intro V9 hV9; have hc9 := HTb.out V9 (Hid.out hV9 _ (.inr (.inl rfl))); go_simp)⟩
        simp only [Act.put, List.setIfInBounds_toArray, List.set_cons_zero, List.set_cons_succ]
        refine wpAnyH_take (i := 17) (oi := ?oi55) (v := .pointer (some ⟨c2, 0, none⟩)) ?hi55 (by kernel_rfl) (by kernel_rfl) (by kernel_rfl) ?hQ55 ?hy55 (by assumption) ?rest55
        case hi55 => (simp only [List.getElem?_toArray, List.getElem?_cons_zero, List.getElem?_cons_succ]; rfl)
        case hQ55 => exact fun _ _ _ h => h
        case hy55 => exact Or.inl ⟨by rfl, by (intro w hSw; (try dsimp only at hSw); go_simp )⟩
        simp only [Act.put, List.setIfInBounds_toArray, List.set_cons_zero, List.set_cons_succ]
        refine wpAnyH_take (i := 18) (oi := ?oi56) (v := .slice (some ⟨s'.gB, 0, none⟩) N s'.cB) ?hi56 (by kernel_rfl) (by kernel_rfl) (by kernel_rfl) ?hQ56 ?hy56 (by assumption) ?rest56
        case hi56 => (simp only [List.getElem?_toArray, List.getElem?_cons_zero, List.getElem?_cons_succ]; rfl)
        case hQ56 => exact fun _ _ _ h => h
        case hy56 => exact Or.inl ⟨by rfl, by (intro V9 hV9; have hc9 : V9.cell? ⟨c2, 0, none⟩ = some (.slice (some ⟨s'.gB, 0, none⟩) N s'.cB) := (cell_of_heap (Hid.out hV9 _ (.inr (.inr (.inr (.inr (.inr rfl)))))) 0).trans (HFi.out.rc2.cell 0); go_simp)⟩
        simp only [Act.put, List.setIfInBounds_toArray, List.set_cons_zero, List.set_cons_succ]
        refine wpAnyH_take (i := 19) (oi := ?oi57) (v := .string st2) ?hi57 (by kernel_rfl) (by kernel_rfl) (by kernel_rfl) ?hQ57 ?hy57 (by assumption) ?rest57
        case hi57 => (simp only [List.getElem?_toArray, List.getElem?_cons_zero, List.getElem?_cons_succ]; rfl)
        case hQ57 => exact fun _ _ _ h => h
        case hy57 => exact Or.inl ⟨by rfl, by (intro V9 hV9; have hc9 := HTs.out V9 (Hid.out hV9 _ (.inr (.inr (.inr (.inl rfl))))); go_simp)⟩
        simp only [Act.put, List.setIfInBounds_toArray, List.set_cons_zero, List.set_cons_succ]
        refine wpAnyH_take (i := 20) (oi := ?oi58) (v := .bool true) ?hi58 (by kernel_rfl) (by kernel_rfl) (by kernel_rfl) ?hQ58 ?hy58 (by assumption) ?rest58
        case hi58 => (simp only [List.getElem?_toArray, List.getElem?_cons_zero, List.getElem?_cons_succ]; rfl)
        case hQ58 => exact fun _ _ _ h => h
        case hy58 => exact Or.inl ⟨by rfl, by (intro w hSw; (try dsimp only at hSw); go_simp )⟩
        simp only [Act.put, List.setIfInBounds_toArray, List.set_cons_zero, List.set_cons_succ]
        refine wpAnyH_take (i := 21) (oi := ?oi59) (v := .bool true) ?hi59 (by kernel_rfl) (by kernel_rfl) (by kernel_rfl) ?hQ59 ?hy59 (by assumption) ?rest59
        case hi59 => (simp only [List.getElem?_toArray, List.getElem?_cons_zero, List.getElem?_cons_succ]; rfl)
        case hQ59 => exact fun _ _ _ h => h
        case hy59 => exact Or.inl ⟨by rfl, by (intro w hSw; (try dsimp only at hSw); go_simp )⟩
        simp only [Act.put, List.setIfInBounds_toArray, List.set_cons_zero, List.set_cons_succ]
        refine wpAnyH_take (i := 22) (oi := ?oi60) (v := .bool true) ?hi60 (by kernel_rfl) (by kernel_rfl) (by kernel_rfl) ?hQ60 ?hy60 (by assumption) ?rest60
        case hi60 => (simp only [List.getElem?_toArray, List.getElem?_cons_zero, List.getElem?_cons_succ]; rfl)
        case hQ60 => exact fun _ _ _ h => h
        case hy60 => exact Or.inl ⟨by rfl, by (intro w hSw; (try dsimp only at hSw); go_simp )⟩
        simp only [Act.put, List.setIfInBounds_toArray, List.set_cons_zero, List.set_cons_succ]
        refine wpAnyH_take (i := 23) (oi := ?oi61) (v := .pointer (some ⟨b, 0, none⟩)) ?hi61 (by kernel_rfl) (by kernel_rfl) (by kernel_rfl) ?hQ61 ?hy61 (by assumption) ?rest61
        case hi61 => (simp only [List.getElem?_toArray, List.getElem?_cons_zero, List.getElem?_cons_succ]; rfl)
        case hQ61 => exact fun _ _ _ h => h
        case hy61 => exact Or.inl ⟨by rfl, by (intro w hSw; (try dsimp only at hSw); go_simp )⟩
        simp only [Act.put, List.setIfInBounds_toArray, List.set_cons_zero, List.set_cons_succ]
        refine wpAnyH_take (i := 24) (oi := ?oi62) (v := .pointer (some ⟨cc, 0, none⟩)) ?hi62 (by kernel_rfl) (by kernel_rfl) (by kernel_rfl) ?hQ62 ?hy62 (by assumption) ?rest62
        case hi62 => (simp only [List.getElem?_toArray, List.getElem?_cons_zero, List.getElem?_cons_succ]; rfl)
        case hQ62 => exact fun _ _ _ h => h
        case hy62 => exact Or.inl ⟨by rfl, by (intro w hSw; (try dsimp only at hSw); go_simp )⟩
        simp only [Act.put, List.setIfInBounds_toArray, List.set_cons_zero, List.set_cons_succ]
        refine wpAnyH_take (i := 26) (oi := ?oi63) (v := .slice (some ⟨ga, 0, none⟩) N N) ?hi63 (by kernel_rfl) (by kernel_rfl) (by kernel_rfl) ?hQ63 ?hy63 (by assumption) ?rest63
        case hi63 => (simp only [List.getElem?_toArray, List.getElem?_cons_zero, List.getElem?_cons_succ]; rfl)
        case hQ63 => exact fun _ _ _ h => h
        case hy63 => exact Or.inl ⟨by rfl, by (intro w hSw; (try dsimp only at hSw); go_simp )⟩
        simp only [Act.put, List.setIfInBounds_toArray, List.set_cons_zero, List.set_cons_succ]
        refine wpAnyH_take (i := 27) (oi := ?oi64) (v := .string st1) ?hi64 (by kernel_rfl) (by kernel_rfl) (by kernel_rfl) ?hQ64 ?hy64 (by assumption) ?rest64
        case hi64 => (simp only [List.getElem?_toArray, List.getElem?_cons_zero, List.getElem?_cons_succ]; rfl)
        case hQ64 => exact fun _ _ _ h => h
        case hy64 => exact Or.inl ⟨by rfl, by (intro V9 hV9; have hc9 := HTa.out V9 (Hid.out hV9 _ (.inl rfl)); go_simp)⟩
        simp only [Act.put, List.setIfInBounds_toArray, List.set_cons_zero, List.set_cons_succ]
        refine wpAnyH_take (i := 28) (oi := ?oi65) (v := .slice (some ⟨gb, 0, none⟩) N N) ?hi65 (by kernel_rfl) (by kernel_rfl) (by kernel_rfl) ?hQ65 ?hy65 (by assumption) ?rest65
        case hi65 => (simp only [List.getElem?_toArray, List.getElem?_cons_zero, List.getElem?_cons_succ]; rfl)
        case hQ65 => exact fun _ _ _ h => h
        case hy65 => exact Or.inl ⟨by rfl, by (intro w hSw; (try dsimp only at hSw); go_simp )⟩
        simp only [Act.put, List.setIfInBounds_toArray, List.set_cons_zero, List.set_cons_succ]
        refine wpAnyH_take (i := 29) (oi := ?oi66) (v := .string st2) ?hi66 (by kernel_rfl) (by kernel_rfl) (by kernel_rfl) ?hQ66 ?hy66 (by assumption) ?rest66
        case hi66 => (simp only [List.getElem?_toArray, List.getElem?_cons_zero, List.getElem?_cons_succ]; rfl)
        case hQ66 => exact fun _ _ _ h => h
        case hy66 => exact Or.inl ⟨by rfl, by (intro V9 hV9; have hc9 := HTb.out V9 (Hid.out hV9 _ (.inr (.inl rfl))); go_simp)⟩
        simp only [Act.put, List.setIfInBounds_toArray, List.set_cons_zero, List.set_cons_succ]
        refine wpAnyH_take (i := 30) (oi := ?oi67) (v := .bool false) ?hi67 (by kernel_rfl) (by kernel_rfl) (by kernel_rfl) ?hQ67 ?hy67 (by assumption) ?rest67
        case hi67 => (simp only [List.getElem?_toArray, List.getElem?_cons_zero, List.getElem?_cons_succ]; rfl)
        case hQ67 => exact fun _ _ _ h => h
        case hy67 => exact Or.inl ⟨by rfl, by (intro w hSw; (try dsimp only at hSw); go_simp <;> exact text_ne hne)⟩
        simp only [Act.put, List.setIfInBounds_toArray, List.set_cons_zero, List.set_cons_succ]
        refine wpAnyH_ready (rs := [25]) (by kernel_rfl) (by simp) ?_
        refine AllReadyH.cons (o := ?oi68) ?hi68 (fun K hK => ?_) AllReadyH.nil
        case hi68 => (simp only [List.getElem?_toArray, List.getElem?_cons_zero, List.getElem?_cons_succ]; rfl)
        rw [if_pos (by rfl)]
        go_simp
        (with_reducible refine HSm.out.mono ?_)
        rintro e Va ⟨⟨sm, rfl, hsm⟩, hx1, hx2⟩
        obtain rfl : sm = false := by (cases sm with | false => rfl | true => exact absurd (HEq.out.1 (hsm.1 rfl)) hne)
        have hH2 : Hid (∀ x, x = ga ∨ x = gb ∨ x = r0.gB ∨ x = s'.gB ∨ x = c ∨ x = c2 → Va.heap[x]? = Y2.heap[x]?) := hide (fun x hx => (hx2.other x (Nat.lt_of_lt_of_le (HLt.out x hx) HV.out.size) (HFi.out.na x hx)).trans (Hid.out hHeld x hx))
        have HVa := hide hx2
        clear hHeld hsm hx1 hx2 HSm
        go_simp
        refine hK.out _ _ ?_ (fun hHeld => ?_)
        · exact hH2
        clear hK K
        clear hH2
        refine wpAnyH_take (i := 31) (oi := ?oi69) (v := .bool true) ?hi69 (by kernel_rfl) (by kernel_rfl) (by kernel_rfl) ?hQ69 ?hy69 (by assumption) ?rest69
        case hi69 => (simp only [List.getElem?_toArray, List.getElem?_cons_zero, List.getElem?_cons_succ]; rfl)
        case hQ69 => exact fun _ _ _ h => h
        case hy69 => exact Or.inl ⟨by rfl, by (intro w hSw; (try dsimp only at hSw); go_simp )⟩
        simp only [Act.put, List.setIfInBounds_toArray, List.set_cons_zero, List.set_cons_succ]
        refine wpAnyH_take (i := 32) (oi := ?oi70) (v := .bool true) ?hi70 (by kernel_rfl) (by kernel_rfl) (by kernel_rfl) ?hQ70 ?hy70 (by assumption) ?rest70
        case hi70 => (simp only [List.getElem?_toArray, List.getElem?_cons_zero, List.getElem?_cons_succ]; rfl)
        case hQ70 => exact fun _ _ _ h => h
        case hy70 => exact Or.inl ⟨by rfl, by (intro w hSw; (try dsimp only at hSw); go_simp )⟩
        simp only [Act.put, List.setIfInBounds_toArray, List.set_cons_zero, List.set_cons_succ]
        refine wpAnyH_take (i := 33) (oi := ?oi71) (v := .bool true) ?hi71 (by kernel_rfl) (by kernel_rfl) (by kernel_rfl) ?hQ71 ?hy71 (by assumption) ?rest71
        case hi71 => (simp only [List.getElem?_toArray, List.getElem?_cons_zero, List.getElem?_cons_succ]; rfl)
        case hQ71 => exact fun _ _ _ h => h
        case hy71 => exact Or.inl ⟨by rfl, by (intro w hSw; (try dsimp only at hSw); go_simp )⟩
        simp only [Act.put, List.setIfInBounds_toArray, List.set_cons_zero, List.set_cons_succ]
        refine wpAnyH_ready (rs := [34]) (by kernel_rfl) (by simp) ?_
        refine AllReadyH.cons (o := ?oi72) ?hi72 (fun K hK => ?_) AllReadyH.nil
        case hi72 => (simp only [List.getElem?_toArray, List.getElem?_cons_zero, List.getElem?_cons_succ]; rfl)
        rw [if_pos (by rfl)]
        go_simp
        (with_reducible refine (HSr.out _).mono ?_)
        rintro e Vb ⟨rfl, hbc⟩
        have hH2 : Hid (∀ x, x = ga ∨ x = gb ∨ x = r0.gB ∨ x = s'.gB ∨ x = c ∨ x = c2 → Vb.heap[x]? = Y2.heap[x]?) := hide (fun x hx => (hbc.block x (Nat.lt_of_lt_of_le (HLt.out x hx) (Nat.le_trans HV.out.size HVa.out.size))).trans (Hid.out hHeld x hx))
        have HVb := hide hbc
        clear hHeld hbc
        go_simp
        refine hK.out _ _ ?_ (fun hHeld => ?_)
        · exact hH2
        clear hK K
        clear hH2
        refine wpAnyH_take (i := 35) (oi := ?oi73) (v := .bool true) ?hi73 (by kernel_rfl) (by kernel_rfl) (by kernel_rfl) ?hQ73 ?hy73 (by assumption) ?rest73
        case hi73 => (simp only [List.getElem?_toArray, List.getElem?_cons_zero, List.getElem?_cons_succ]; rfl)
        case hQ73 => exact fun _ _ _ h => h
        case hy73 => exact Or.inl ⟨by rfl, by (intro w hSw; (try dsimp only at hSw); go_simp )⟩
        simp only [Act.put, List.setIfInBounds_toArray, List.set_cons_zero, List.set_cons_succ]
        refine wpAnyH_take (i := 36) (oi := ?oi74) (v := .bool true) ?hi74 (by kernel_rfl) (by kernel_rfl) (by kernel_rfl) ?hQ74 ?hy74 (by assumption) ?rest74
        case hi74 => (simp only [List.getElem?_toArray, List.getElem?_cons_zero, List.getElem?_cons_succ]; rfl)
        case hQ74 => exact fun _ _ _ h => h
        case hy74 => exact Or.inl ⟨by rfl, by (intro w hSw; (try dsimp only at hSw); go_simp )⟩
        simp only [Act.put, List.setIfInBounds_toArray, List.set_cons_zero, List.set_cons_succ]
        refine wpAnyH_done (by kernel_rfl) ?_ _
        go_wp2
        go_ret
        have hbe := (HFi.out.bel.trans (HV.out.mono HFi.out.base)).trans HVa.out.below
        exact ⟨rfl, hbe.trans (HVb.out.mono hbe.size)⟩

end Go.Proofs.YtficoenanfnijaaGreatDoor
