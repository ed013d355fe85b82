/-
  What the document's Walk answers.
-/
import Derived.Test.YtghpjibjhaomoaaGreatDoorJRiRWM
namespace Go.Proofs.YtghpjibjhaomoaaGreatDoor
open Go.RowKit
set_option linter.unusedVariables false
set_option linter.unusedSimpArgs false

attribute [local go_sem] Rg.at0 Rg.at1 Rg.at2 Rg.at3 Rg.at4 Rg.at5
set_option maxRecDepth 20000 in
set_option maxHeartbeats 1000000 in
theorem dwalk_bad (r : Rg) (hr0 : r.Ok) (hc : chkR r = false) (hd : Int) (rp : RP) (w : World) : Calls Tryz.prog 15 #[.agg r.cells, .agg (rp.v 8192 2), .int .i64 hd] w fun e w' => e = .returned (.tuple #[.slice none 0 0, .int .i64 1]) ∧ Below w.heap.size w w' := by
  have HC : Hid (∀ W, Calls Tryz.prog 12 #[.agg r.cells] W fun e w' => e = .returned (.int .i64 1) ∧ Below W.heap.size W w') := hide (fun W => by have := dcheck_any r hr0 W; rw [hc] at this; exact this)
  clear hr0 hc
  go_enter Tryz.func15, Tryz.ntmps15
  go_wp2_with (first | ((with_reducible refine bx_rr w.heap.size r ?_ ?_ ?_); exact rfl; exact rfl; intro W hr hb hz) | ((with_reducible refine bx_Rv (w.heap.size + 1) rp ?_ ?_ ?_); exact hz.out; exact rfl; intro W hm hb' hz'; replace hr := hr.bl (hz.out ▸ hb'); replace hb := hb.trans (hb'.mono (by omega)); replace hz := hz'; clear hb' hz') | ((with_reducible refine ld_rr w.heap.size r hr ?_ ?_ ?_); exact rfl; exact rfl) | (go_at_call 12; (with_reducible refine (HC.out _).mono ?_); rintro e W ⟨rfl, hbc⟩; replace hr := hr.bl hbc; replace hm := hm.bl hbc; replace hb := hb.trans (hbc.mono hb.size); clear hbc))
  go_ret2
  exact ⟨rfl, hb⟩
theorem own_lower2' {W : World} {B e sz n : Nat} {v : Value} {xs : List Value} (h : W.ownsRow (B + 1 + 1) e sz v n xs) : W.ownsRow B e sz v n xs := own_lower1 (own_lower1 h)
set_option maxRecDepth 20000 in
set_option maxHeartbeats 16000000 in
theorem dwalk_any (r : Rg) (hr0 : r.Ok) (hc : chkR r = true) (hd : Int) (hd0 : -9223372036854775808 ≤ hd) (hd1 : hd ≤ 9223372036854775807) {w : World} {f : Nat → Nat} {rp : RP} (h : RefAt w 8192 2 f rp) :
    Calls Tryz.prog 15 #[.agg r.cells, .agg (rp.v 8192 2), .int .i64 hd] w fun e w' => Below w.heap.size w w' ∧ ((walkV 2 f r hd = none ∧ e = .returned (.tuple #[.slice none 0 0, .int .i64 22])) ∨ ∃ l v, walkV 2 f r hd = some l ∧ e = .returned (.tuple #[v, .int .i64 0]) ∧ w'.ownsRow w.heap.size 100 3 v l.length (segL l)) := by
  have HC : Hid (∀ W, Calls Tryz.prog 12 #[.agg r.cells] W fun e w' => e = .returned (.int .i64 0) ∧ Below W.heap.size W w') := hide (fun W => by have := dcheck_any r hr0 W; rw [hc] at this; exact this)
  have HREF := hide h
  have hsm := hide h.small
  obtain ⟨k, hk, hk0, hk1⟩ := chkR_sz hc
  obtain ⟨al1, al2, al3⟩ := chkR_al hc
  have hkn : r.sz.toNat = k := by omega
  have HWK := hide (rwalk_is 2 f r hd)
  rw [hkn] at HWK
  have hk' := hide hk
  have hdel := hr0.de
  clear h hc hkn hk hr0
  go_enter Tryz.func15, Tryz.ntmps15
  go_wp2_with (first | ((with_reducible refine bx_rr w.heap.size r ?_ ?_ ?_); exact rfl; exact rfl; intro W hr hb hz) | ((with_reducible refine bx_Rv (w.heap.size + 1) rp ?_ ?_ ?_); exact hz.out; exact rfl; intro W hm hb' hz'; replace hr := hr.bl (hz.out ▸ hb'); replace hb := hb.trans (hb'.mono (by omega)); replace hz := hz'; clear hb' hz') | ((with_reducible refine ld_rr w.heap.size r hr ?_ ?_ ?_); exact rfl; exact rfl) | (go_at_call 12; (with_reducible refine (HC.out _).mono ?_); rintro e W ⟨rfl, hbc⟩; replace hr := hr.bl hbc; replace hm := hm.bl hbc; replace hb := hb.trans (hbc.mono hb.size); clear hbc))
  have hS : w.heap.size + 1 + 1 ≤ W.heap.size := hm.lt
  go_loopw [8, 9, 10, 11, 12] (fun lv sv av ov mv wr => ∃ (acc : List Sg) (sum : Nat) (wro : Bool) (n : Int), acc.length ≤ k ∧ mv = .int .i64 (acc.length : Nat) ∧ sv = .int .i64 (sum : Nat) ∧ sum ≤ 1048576 ∧ av = .int .i64 n ∧ -9223372036854775808 ≤ n ∧ n ≤ 9223372036854775807 ∧ ov = .bool wro ∧ walkV 2 f r hd = (rwalk 2 f r (k - acc.length) sum wro n).map (acc ++ ·) ∧ wr.ownsRow (w.heap.size + 1 + 1) 100 3 lv acc.length (segL acc) ∧ RowAt wr w.heap.size r.cells 25 ∧ RowAt wr (w.heap.size + 1) (rp.v 8192 2) 31 ∧ Below w.heap.size w wr ∧ w.heap.size + 1 + 1 ≤ wr.heap.size) (fun lv sv av ov mv _ => 300 - (intOf mv).toNat)
  case atStart =>
    refine ⟨[], 0, false, hd, Nat.zero_le _, rfl, rfl, by decide, rfl, hd0, hd1, rfl, ?_, World.ownsRow_nil _ _ _ _, hr, hm, hb, hS⟩
    rw [← HWK.out]
    show rwalk 2 f r k 0 false hd = (rwalk 2 f r k 0 false hd).map (([] : List Sg) ++ ·)
    cases rwalk 2 f r k 0 false hd <;> rfl
  case round =>
    clear hr hm hb hS hz
    obtain ⟨acc, sum, wro, n, hacc, rfl, rfl, hsum, rfl, hn0, hn1, rfl, hfo, hL, hr, hm, hb, hS⟩ := hrel
    obtain ⟨na, hna⟩ : ∃ x, acc.length = x := ⟨_, rfl⟩
    rw [hna] at hacc hL hfo ⊢
    have HNA := hide hna
    obtain ⟨av, cap, rfl, hcap1, hcap2⟩ := own_form hL
    have hsz : r.sz = (k : Int) := hk'.out
    have HFO := hide hfo
    clear hfo hna
    by_cases hlt : na < k
    · have lt0 : (na : Int) < r.sz := by omega
      by_cases hin : 0 ≤ n ∧ n < r.sz
      · obtain ⟨m, rfl⟩ := Int.eq_ofNat_of_zero_le hin.1
        have hml : m < 256 := by omega
        have t0 : decide ((m : Int) < 0) = false := by simp
        have t1 : decide (r.sz ≤ (m : Int)) = false := by simp; omega
        have hfs : rwalk 2 f r (k - na) sum wro (m : Int) = if plB 2 (deA r m) 16 then (if oddE 2 sum wro (dscAt f r m) then none else if hasD (dscAt f r m) 1 then (rwalk 2 f r (k - na - 1) (sum + dscAt f r m 2) (wro || hasD (dscAt f r m) 2) (dscAt f r m 3 / 65536 : Nat)).map (sgOf (dscAt f r m) :: ·) else some [sgOf (dscAt f r m)]) else none := by
          rw [show k - na = (k - na - 1) + 1 by omega]
          simp only [rwalk]
          rw [if_pos hin]
          rfl
        have hx := deA_lt r m
        have hxa := deA_al al1 m
        have ed : ((r.de : Int) + 16 * (m : Int)) % 4294967296 = ((deA r m : Nat) : Int) := by unfold deA t32; omega
        clear hin
        by_cases hpl : plB 2 (deA r m) 16 = true
        · rw [if_pos hpl] at hfs
          have hnt := num_two f hsm.out (plM (deA r m) + 12)
          have hgl : ∀ i, dscAt f r m i < 4294967296 := fun i => dscAt_lt hsm.out r m i
          have g0e : dscAt f r m 0 = numF f (plM (deA r m)) 4 := rfl
          have g1e : dscAt f r m 1 = numF f (plM (deA r m) + 4) 4 := rfl
          have g2e : dscAt f r m 2 = numF f (plM (deA r m) + 8) 4 := rfl
          have g3e : dscAt f r m 3 = numF f (plM (deA r m) + 12) 4 := rfl
          have LD : ∀ j kk, (kk = 2 ∨ kk = 4) → j % kk = 0 → j + kk ≤ 16 → ∀ W (z : Int), Below w.heap.size w W → z = ((deA r m + j : Nat) : Int) → Calls Tryz.prog 32 #[.agg (rp.v 8192 2), .int .u32 z, .int .i64 (kk : Nat)] W fun e w' => e = .returned (.tuple #[.int .u32 (numF f (plM (deA r m) + j) kk : Nat), .bool true]) ∧ Below W.heap.size W w' := fun j kk h1 h2 h3 W z hb hz => by
            rw [hz]
            obtain ⟨q1, q2⟩ := de_at hxa hx (show j < 16 by omega)
            have h := dload_ok (HREF.out.bl hb) (deA r m + j) kk q1 h1 (by rcases h1 with rfl | rfl <;> omega) (de_yes hxa hx hpl h3 (by omega))
            rw [q2] at h
            exact h
          have HL0 : Hid (∀ W (z : Int), Below w.heap.size w W → z = ((deA r m + 0 : Nat) : Int) → Calls Tryz.prog 32 #[.agg (rp.v 8192 2), .int .u32 z, .int .i64 4] W fun e w' => e = .returned (.tuple #[.int .u32 (numF f (plM (deA r m) + 0) 4 : Nat), .bool true]) ∧ Below W.heap.size W w') := hide (fun W z hb hz => LD 0 4 (.inr rfl) (by decide) (by decide) W z hb hz)
          have HL1 : Hid (∀ W (z : Int), Below w.heap.size w W → z = ((deA r m + 4 : Nat) : Int) → Calls Tryz.prog 32 #[.agg (rp.v 8192 2), .int .u32 z, .int .i64 4] W fun e w' => e = .returned (.tuple #[.int .u32 (numF f (plM (deA r m) + 4) 4 : Nat), .bool true]) ∧ Below W.heap.size W w') := hide (fun W z hb hz => LD 4 4 (.inr rfl) (by decide) (by decide) W z hb hz)
          have HL2 : Hid (∀ W (z : Int), Below w.heap.size w W → z = ((deA r m + 8 : Nat) : Int) → Calls Tryz.prog 32 #[.agg (rp.v 8192 2), .int .u32 z, .int .i64 4] W fun e w' => e = .returned (.tuple #[.int .u32 (numF f (plM (deA r m) + 8) 4 : Nat), .bool true]) ∧ Below W.heap.size W w') := hide (fun W z hb hz => LD 8 4 (.inr rfl) (by decide) (by decide) W z hb hz)
          have HL3 : Hid (∀ W (z : Int), Below w.heap.size w W → z = ((deA r m + 12 : Nat) : Int) → Calls Tryz.prog 32 #[.agg (rp.v 8192 2), .int .u32 z, .int .i64 2] W fun e w' => e = .returned (.tuple #[.int .u32 (numF f (plM (deA r m) + 12) 2 : Nat), .bool true]) ∧ Below W.heap.size W w') := hide (fun W z hb hz => LD 12 2 (.inl rfl) (by decide) (by decide) W z hb hz)
          have HL4 : Hid (∀ W (z : Int), Below w.heap.size w W → z = ((deA r m + 14 : Nat) : Int) → Calls Tryz.prog 32 #[.agg (rp.v 8192 2), .int .u32 z, .int .i64 2] W fun e w' => e = .returned (.tuple #[.int .u32 (numF f (plM (deA r m) + 14) 2 : Nat), .bool true]) ∧ Below W.heap.size W w') := hide (fun W z hb hz => LD 14 2 (.inl rfl) (by decide) (by decide) W z hb hz)
          rw [show plM (deA r m) + 0 = plM (deA r m) from rfl, ← g0e] at HL0
          rw [← g1e] at HL1
          rw [← g2e] at HL2
          rw [← hnt.1, ← g3e] at HL3
          rw [show plM (deA r m) + 14 = plM (deA r m) + 12 + 2 from rfl, ← hnt.2, ← g3e] at HL4
          have HTH : Hid (∀ W, Calls Tryz.prog 39 #[.agg (rp.v 8192 2), .int .u32 (dscAt f r m 0 : Nat), .int .i64 (dscAt f r m 2 : Nat)] W fun e w' => e = .returned (.bool (plB 2 (dscAt f r m 0) (dscAt f r m 2))) ∧ Below W.heap.size W w') := hide (fun W => dthere_any rp _ _ (hgl 0) (hgl 2))
          obtain ⟨d, hdd⟩ : ∃ d, dscAt f r m = d := ⟨_, rfl⟩
          rw [hdd] at HL0 HL1 HL2 HL3 HL4 HTH hfs hgl
          obtain ⟨x, hxx⟩ : ∃ x, deA r m = x := ⟨_, rfl⟩
          rw [hxx] at HL0 HL1 HL2 HL3 HL4 hx hxa ed
          have hxl : x ≤ 4294967280 := by omega
          have l0 := hgl 0
          have l1 := hgl 1
          have l2 := hgl 2
          have hml2 : d 3 % 65536 < 65536 := Nat.mod_lt _ (by decide)
          have hnl : d 3 / 65536 < 65536 := by have := hgl 3; omega
          have ewr : d 3 % 65536 ≤ 3 → hasD d 2 = decide (d 3 % 65536 / 2 = 1) ∧ hasD d 1 = !decide (d 3 % 65536 % 2 = 0) := fun q => mark_lo ⟨d 3 % 65536, by omega⟩
          have eod : oddE 2 sum wro d = (decide (d 1 ≠ 0) || (decide (3 < d 3 % 65536) || (decide (1048576 < d 2) || (!plB 2 (d 0) (d 2) || ((wro && !hasD d 2) || decide (1048576 < sum + d 2)))))) := rfl
          have esg : sgOf d = ⟨d 0, ((d 2 : Nat) : Int), hasD d 2⟩ := rfl
          obtain ⟨sd, hsd⟩ : ∃ x, sgOf d = x := ⟨_, rfl⟩
          rw [hsd] at hfs esg
          generalize hasD d 2 = hw2 at *
          generalize hasD d 1 = hf1 at *
          generalize d 3 % 65536 = mk at *
          generalize d 3 / 65536 = nx at *
          generalize d 0 = g0 at *
          generalize d 1 = g1 at *
          generalize d 2 = g2 at *
          have HSG : Hid (sd.cells = #[.int .u32 (g0 : Nat), .int .i64 ((g2 : Nat) : Int), .bool hw2]) := hide (by rw [esg]; rfl)
          clear hnt g0e g1e g2e g3e LD hdd hxx hpl esg hsd hgl
          have HFS := hide hfs
          obtain ⟨pv, hpv⟩ : ∃ x, plB 2 g0 g2 = x := ⟨_, rfl⟩
          rw [hpv] at HTH eod
          have HEO := hide eod
          clear hfs hpv eod
          by_cases c1 : g1 = 0
          · have d1 : ((g1 : Int) != 0) = false := by simp [c1]
            by_cases c2 : mk ≤ 3
            · obtain ⟨ew2, ew1⟩ := ewr c2
              have HEW := hide (And.intro ew2 ew1)
              clear ewr ew2 ew1
              have d2 : decide ((3 : Int) < (mk : Int)) = false := by simp; omega
              by_cases c3 : 1048576 < g2
              · have d3 : (1048576 : Int) < (g2 : Int) := by omega
                have HOD : Hid (oddE 2 sum wro d = true) := hide (by rw [HEO.out]; simp [c3])
                clear c1 c2 c3
                clear hsz
                go_wp2_with (first | ((with_reducible refine ld_rsz w.heap.size _ _ hr ?_ ?_ ?_); exact rfl; exact rfl) | ((with_reducible refine ld_rde w.heap.size _ _ hr ?_ ?_ ?_); exact rfl; exact rfl) | ((with_reducible refine ld_Rw (w.heap.size + 1) rp 8192 2 hm ?_ ?_ ?_); exact rfl; exact rfl) | (go_at_call 32; (with_reducible refine (HL0.out _ _ hb ?_).mono ?_); (first | omega | (simp; omega)); rintro e W ⟨rfl, hbc⟩; replace hr := hr.bl hbc; replace hm := hm.bl hbc; replace hL := own_bel hL hbc; replace hb := hb.trans (hbc.mono hb.size); replace hS := Nat.le_trans hS hbc.size; clear hbc) | (go_at_call 32; (with_reducible refine (HL1.out _ _ hb ?_).mono ?_); (first | omega | (simp; omega)); rintro e W ⟨rfl, hbc⟩; replace hr := hr.bl hbc; replace hm := hm.bl hbc; replace hL := own_bel hL hbc; replace hb := hb.trans (hbc.mono hb.size); replace hS := Nat.le_trans hS hbc.size; clear hbc) | (go_at_call 32; (with_reducible refine (HL2.out _ _ hb ?_).mono ?_); (first | omega | (simp; omega)); rintro e W ⟨rfl, hbc⟩; replace hr := hr.bl hbc; replace hm := hm.bl hbc; replace hL := own_bel hL hbc; replace hb := hb.trans (hbc.mono hb.size); replace hS := Nat.le_trans hS hbc.size; clear hbc) | (go_at_call 32; (with_reducible refine (HL3.out _ _ hb ?_).mono ?_); (first | omega | (simp; omega)); rintro e W ⟨rfl, hbc⟩; replace hr := hr.bl hbc; replace hm := hm.bl hbc; replace hL := own_bel hL hbc; replace hb := hb.trans (hbc.mono hb.size); replace hS := Nat.le_trans hS hbc.size; clear hbc) | (go_at_call 32; (with_reducible refine (HL4.out _ _ hb ?_).mono ?_); (first | omega | (simp; omega)); rintro e W ⟨rfl, hbc⟩; replace hr := hr.bl hbc; replace hm := hm.bl hbc; replace hL := own_bel hL hbc; replace hb := hb.trans (hbc.mono hb.size); replace hS := Nat.le_trans hS hbc.size; clear hbc) | (go_at_call 39; (with_reducible refine (HTH.out _).mono ?_); rintro e W ⟨rfl, hbc⟩; replace hr := hr.bl hbc; replace hm := hm.bl hbc; replace hL := own_bel hL hbc; replace hb := hb.trans (hbc.mono hb.size); replace hS := Nat.le_trans hS hbc.size; clear hbc; obtain ⟨N1, hN10⟩ : ∃ y, W.heap.size = y := ⟨_, rfl⟩; have hN1 := hide hN10; have lN1 : w.heap.size + 1 + 1 ≤ N1 := hN10 ▸ hS; have hlv : ∀ y, (Value.slice av na cap).ownBlock = some y → w.heap.size + 1 + 1 ≤ y ∧ y < N1 := (fun y hy => hN10 ▸ hL.lt y hy); clear hN10))
                go_ret2
                refine ⟨hb, .inl ⟨?_, rfl⟩⟩
                rw [HFO.out, HFS.out, if_pos HOD.out]
                rfl
              · have d3 : decide ((1048576 : Int) < (g2 : Int)) = false := by simp; omega
                obtain ⟨sm, hsm2⟩ : ∃ x, sum + g2 = x := ⟨_, rfl⟩
                have esm : (sum : Int) + (g2 : Int) = (sm : Int) := by omega
                have hsml : sm ≤ 2097152 := by omega
                have HSM := hide hsm2
                cases pv with
                | false =>
                  have HOD : Hid (oddE 2 sum wro d = true) := hide (by rw [HEO.out]; simp)
                  clear c1 c2 c3 hsm2
                  clear hsz
                  go_wp2_with (first | ((with_reducible refine ld_rsz w.heap.size _ _ hr ?_ ?_ ?_); exact rfl; exact rfl) | ((with_reducible refine ld_rde w.heap.size _ _ hr ?_ ?_ ?_); exact rfl; exact rfl) | ((with_reducible refine ld_Rw (w.heap.size + 1) rp 8192 2 hm ?_ ?_ ?_); exact rfl; exact rfl) | (go_at_call 32; (with_reducible refine (HL0.out _ _ hb ?_).mono ?_); (first | omega | (simp; omega)); rintro e W ⟨rfl, hbc⟩; replace hr := hr.bl hbc; replace hm := hm.bl hbc; replace hL := own_bel hL hbc; replace hb := hb.trans (hbc.mono hb.size); replace hS := Nat.le_trans hS hbc.size; clear hbc) | (go_at_call 32; (with_reducible refine (HL1.out _ _ hb ?_).mono ?_); (first | omega | (simp; omega)); rintro e W ⟨rfl, hbc⟩; replace hr := hr.bl hbc; replace hm := hm.bl hbc; replace hL := own_bel hL hbc; replace hb := hb.trans (hbc.mono hb.size); replace hS := Nat.le_trans hS hbc.size; clear hbc) | (go_at_call 32; (with_reducible refine (HL2.out _ _ hb ?_).mono ?_); (first | omega | (simp; omega)); rintro e W ⟨rfl, hbc⟩; replace hr := hr.bl hbc; replace hm := hm.bl hbc; replace hL := own_bel hL hbc; replace hb := hb.trans (hbc.mono hb.size); replace hS := Nat.le_trans hS hbc.size; clear hbc) | (go_at_call 32; (with_reducible refine (HL3.out _ _ hb ?_).mono ?_); (first | omega | (simp; omega)); rintro e W ⟨rfl, hbc⟩; replace hr := hr.bl hbc; replace hm := hm.bl hbc; replace hL := own_bel hL hbc; replace hb := hb.trans (hbc.mono hb.size); replace hS := Nat.le_trans hS hbc.size; clear hbc) | (go_at_call 32; (with_reducible refine (HL4.out _ _ hb ?_).mono ?_); (first | omega | (simp; omega)); rintro e W ⟨rfl, hbc⟩; replace hr := hr.bl hbc; replace hm := hm.bl hbc; replace hL := own_bel hL hbc; replace hb := hb.trans (hbc.mono hb.size); replace hS := Nat.le_trans hS hbc.size; clear hbc) | (go_at_call 39; (with_reducible refine (HTH.out _).mono ?_); rintro e W ⟨rfl, hbc⟩; replace hr := hr.bl hbc; replace hm := hm.bl hbc; replace hL := own_bel hL hbc; replace hb := hb.trans (hbc.mono hb.size); replace hS := Nat.le_trans hS hbc.size; clear hbc; obtain ⟨N1, hN10⟩ : ∃ y, W.heap.size = y := ⟨_, rfl⟩; have hN1 := hide hN10; have lN1 : w.heap.size + 1 + 1 ≤ N1 := hN10 ▸ hS; have hlv : ∀ y, (Value.slice av na cap).ownBlock = some y → w.heap.size + 1 + 1 ≤ y ∧ y < N1 := (fun y hy => hN10 ▸ hL.lt y hy); clear hN10))
                  go_ret2
                  refine ⟨hb, .inl ⟨?_, rfl⟩⟩
                  rw [HFO.out, HFS.out, if_pos HOD.out]
                  rfl
                | true =>
                  have hmk : mk = 0 ∨ mk = 1 ∨ mk = 2 ∨ mk = 3 := by omega
                  by_cases c4 : 1048576 < sm
                  · have d4 : (1048576 : Int) < (sm : Int) := by omega
                    have HOD : Hid (oddE 2 sum wro d = true) := hide (by rw [HEO.out, HSM.out]; simp [c4])
                    clear c1 c2 c3 c4 hsm2
                    rcases hmk with rfl | rfl | rfl | rfl
                    all_goals cases wro
                    all_goals
                      clear hsz
                      go_wp2_with (first | ((with_reducible refine ld_rsz w.heap.size _ _ hr ?_ ?_ ?_); exact rfl; exact rfl) | ((with_reducible refine ld_rde w.heap.size _ _ hr ?_ ?_ ?_); exact rfl; exact rfl) | ((with_reducible refine ld_Rw (w.heap.size + 1) rp 8192 2 hm ?_ ?_ ?_); exact rfl; exact rfl) | (go_at_call 32; (with_reducible refine (HL0.out _ _ hb ?_).mono ?_); (first | omega | (simp; omega)); rintro e W ⟨rfl, hbc⟩; replace hr := hr.bl hbc; replace hm := hm.bl hbc; replace hL := own_bel hL hbc; replace hb := hb.trans (hbc.mono hb.size); replace hS := Nat.le_trans hS hbc.size; clear hbc) | (go_at_call 32; (with_reducible refine (HL1.out _ _ hb ?_).mono ?_); (first | omega | (simp; omega)); rintro e W ⟨rfl, hbc⟩; replace hr := hr.bl hbc; replace hm := hm.bl hbc; replace hL := own_bel hL hbc; replace hb := hb.trans (hbc.mono hb.size); replace hS := Nat.le_trans hS hbc.size; clear hbc) | (go_at_call 32; (with_reducible refine (HL2.out _ _ hb ?_).mono ?_); (first | omega | (simp; omega)); rintro e W ⟨rfl, hbc⟩; replace hr := hr.bl hbc; replace hm := hm.bl hbc; replace hL := own_bel hL hbc; replace hb := hb.trans (hbc.mono hb.size); replace hS := Nat.le_trans hS hbc.size; clear hbc) | (go_at_call 32; (with_reducible refine (HL3.out _ _ hb ?_).mono ?_); (first | omega | (simp; omega)); rintro e W ⟨rfl, hbc⟩; replace hr := hr.bl hbc; replace hm := hm.bl hbc; replace hL := own_bel hL hbc; replace hb := hb.trans (hbc.mono hb.size); replace hS := Nat.le_trans hS hbc.size; clear hbc) | (go_at_call 32; (with_reducible refine (HL4.out _ _ hb ?_).mono ?_); (first | omega | (simp; omega)); rintro e W ⟨rfl, hbc⟩; replace hr := hr.bl hbc; replace hm := hm.bl hbc; replace hL := own_bel hL hbc; replace hb := hb.trans (hbc.mono hb.size); replace hS := Nat.le_trans hS hbc.size; clear hbc) | (go_at_call 39; (with_reducible refine (HTH.out _).mono ?_); rintro e W ⟨rfl, hbc⟩; replace hr := hr.bl hbc; replace hm := hm.bl hbc; replace hL := own_bel hL hbc; replace hb := hb.trans (hbc.mono hb.size); replace hS := Nat.le_trans hS hbc.size; clear hbc; obtain ⟨N1, hN10⟩ : ∃ y, W.heap.size = y := ⟨_, rfl⟩; have hN1 := hide hN10; have lN1 : w.heap.size + 1 + 1 ≤ N1 := hN10 ▸ hS; have hlv : ∀ y, (Value.slice av na cap).ownBlock = some y → w.heap.size + 1 + 1 ≤ y ∧ y < N1 := (fun y hy => hN10 ▸ hL.lt y hy); clear hN10))
                      go_ret2
                      refine ⟨hb, .inl ⟨?_, rfl⟩⟩
                      rw [HFO.out, HFS.out, if_pos HOD.out]
                      rfl
                  · have d4 : decide ((1048576 : Int) < (sm : Int)) = false := by simp; omega
                    rcases hmk with rfl | rfl | rfl | rfl
                    · cases wro with
                      | false =>
                        have HOD : Hid (oddE 2 sum false d = false) := hide (by rw [HEO.out, HEW.out.1, HSM.out]; simp [c1, c3, c4])
                        have HH2 : Hid (hw2 = false) := hide HEW.out.1
                        have HH1 : Hid (hf1 = false) := hide HEW.out.2
                        rw [HH2.out] at HSG
                        have hs9 : sm ≤ 1048576 := by omega
                        clear c1 c2 c3 c4 hsm2
                        clear hsz
                        go_wp2_with (first | ((with_reducible refine ld_rsz w.heap.size _ _ hr ?_ ?_ ?_); exact rfl; exact rfl) | ((with_reducible refine ld_rde w.heap.size _ _ hr ?_ ?_ ?_); exact rfl; exact rfl) | ((with_reducible refine ld_Rw (w.heap.size + 1) rp 8192 2 hm ?_ ?_ ?_); exact rfl; exact rfl) | (go_at_call 32; (with_reducible refine (HL0.out _ _ hb ?_).mono ?_); (first | omega | (simp; omega)); rintro e W ⟨rfl, hbc⟩; replace hr := hr.bl hbc; replace hm := hm.bl hbc; replace hL := own_bel hL hbc; replace hb := hb.trans (hbc.mono hb.size); replace hS := Nat.le_trans hS hbc.size; clear hbc) | (go_at_call 32; (with_reducible refine (HL1.out _ _ hb ?_).mono ?_); (first | omega | (simp; omega)); rintro e W ⟨rfl, hbc⟩; replace hr := hr.bl hbc; replace hm := hm.bl hbc; replace hL := own_bel hL hbc; replace hb := hb.trans (hbc.mono hb.size); replace hS := Nat.le_trans hS hbc.size; clear hbc) | (go_at_call 32; (with_reducible refine (HL2.out _ _ hb ?_).mono ?_); (first | omega | (simp; omega)); rintro e W ⟨rfl, hbc⟩; replace hr := hr.bl hbc; replace hm := hm.bl hbc; replace hL := own_bel hL hbc; replace hb := hb.trans (hbc.mono hb.size); replace hS := Nat.le_trans hS hbc.size; clear hbc) | (go_at_call 32; (with_reducible refine (HL3.out _ _ hb ?_).mono ?_); (first | omega | (simp; omega)); rintro e W ⟨rfl, hbc⟩; replace hr := hr.bl hbc; replace hm := hm.bl hbc; replace hL := own_bel hL hbc; replace hb := hb.trans (hbc.mono hb.size); replace hS := Nat.le_trans hS hbc.size; clear hbc) | (go_at_call 32; (with_reducible refine (HL4.out _ _ hb ?_).mono ?_); (first | omega | (simp; omega)); rintro e W ⟨rfl, hbc⟩; replace hr := hr.bl hbc; replace hm := hm.bl hbc; replace hL := own_bel hL hbc; replace hb := hb.trans (hbc.mono hb.size); replace hS := Nat.le_trans hS hbc.size; clear hbc) | (go_at_call 39; (with_reducible refine (HTH.out _).mono ?_); rintro e W ⟨rfl, hbc⟩; replace hr := hr.bl hbc; replace hm := hm.bl hbc; replace hL := own_bel hL hbc; replace hb := hb.trans (hbc.mono hb.size); replace hS := Nat.le_trans hS hbc.size; clear hbc; obtain ⟨N1, hN10⟩ : ∃ y, W.heap.size = y := ⟨_, rfl⟩; have hN1 := hide hN10; have lN1 : w.heap.size + 1 + 1 ≤ N1 := hN10 ▸ hS; have hlv : ∀ y, (Value.slice av na cap).ownBlock = some y → w.heap.size + 1 + 1 ≤ y ∧ y < N1 := (fun y hy => hN10 ▸ hL.lt y hy); clear hN10) | ((with_reducible refine bs_r N1 ?_ sd ?_ ?_); exact hN1.out; (exact congrArg Value.agg HSG.out.symm); intro W hbr hb' hz; have hbc := hN1.out.symm ▸ hb'; replace hr := hr.bl hbc; replace hm := hm.bl hbc; replace hL := own_bel hL hbc; replace hb := hb.trans (hbc.mono hb.size); replace hS := Nat.le_trans hS hbc.size; clear hbc; clear hb') | ((with_reducible refine app_r acc sd na HNA.out hL N1 hbr (by omega) hS ?_ ?_ ?_); exact rfl; exact rfl; intro W v' hL2 hg hbk; replace hr := grow_row hr hg (fun e => absurd (hlv _ e).1 (by omega)); replace hm := grow_row hm hg (fun e => absurd (hlv _ e).1 (by omega)); have hwS := Nat.le_trans (Nat.le_succ _) (Nat.le_trans (Nat.le_succ _) hS); replace hb := grow_below hb hg hwS (fun y e => by have := (hlv y e).1; omega); replace hS := Nat.le_trans hS hg.size; replace hL := hL2; clear hL2 hg hbk hbr))
                        go_ret2
                        refine ⟨hb, .inr ⟨acc ++ [sd], _, ?_, rfl, by rw [List.length_append, HNA.out]; exact own_lower2' hL⟩⟩
                        rw [HFO.out, HFS.out, if_neg (by rw [HOD.out]; decide), if_neg (by rw [HH1.out]; decide)]
                        rfl
                      | true =>
                        have HOD : Hid (oddE 2 sum true d = true) := hide (by rw [HEO.out, HEW.out.1]; simp)
                        clear c1 c2 c3 c4 hsm2 hsz
                        go_wp2_with (first | ((with_reducible refine ld_rsz w.heap.size _ _ hr ?_ ?_ ?_); exact rfl; exact rfl) | ((with_reducible refine ld_rde w.heap.size _ _ hr ?_ ?_ ?_); exact rfl; exact rfl) | ((with_reducible refine ld_Rw (w.heap.size + 1) rp 8192 2 hm ?_ ?_ ?_); exact rfl; exact rfl) | (go_at_call 32; (with_reducible refine (HL0.out _ _ hb ?_).mono ?_); (first | omega | (simp; omega)); rintro e W ⟨rfl, hbc⟩; replace hr := hr.bl hbc; replace hm := hm.bl hbc; replace hL := own_bel hL hbc; replace hb := hb.trans (hbc.mono hb.size); replace hS := Nat.le_trans hS hbc.size; clear hbc) | (go_at_call 32; (with_reducible refine (HL1.out _ _ hb ?_).mono ?_); (first | omega | (simp; omega)); rintro e W ⟨rfl, hbc⟩; replace hr := hr.bl hbc; replace hm := hm.bl hbc; replace hL := own_bel hL hbc; replace hb := hb.trans (hbc.mono hb.size); replace hS := Nat.le_trans hS hbc.size; clear hbc) | (go_at_call 32; (with_reducible refine (HL2.out _ _ hb ?_).mono ?_); (first | omega | (simp; omega)); rintro e W ⟨rfl, hbc⟩; replace hr := hr.bl hbc; replace hm := hm.bl hbc; replace hL := own_bel hL hbc; replace hb := hb.trans (hbc.mono hb.size); replace hS := Nat.le_trans hS hbc.size; clear hbc) | (go_at_call 32; (with_reducible refine (HL3.out _ _ hb ?_).mono ?_); (first | omega | (simp; omega)); rintro e W ⟨rfl, hbc⟩; replace hr := hr.bl hbc; replace hm := hm.bl hbc; replace hL := own_bel hL hbc; replace hb := hb.trans (hbc.mono hb.size); replace hS := Nat.le_trans hS hbc.size; clear hbc) | (go_at_call 32; (with_reducible refine (HL4.out _ _ hb ?_).mono ?_); (first | omega | (simp; omega)); rintro e W ⟨rfl, hbc⟩; replace hr := hr.bl hbc; replace hm := hm.bl hbc; replace hL := own_bel hL hbc; replace hb := hb.trans (hbc.mono hb.size); replace hS := Nat.le_trans hS hbc.size; clear hbc) | (go_at_call 39; (with_reducible refine (HTH.out _).mono ?_); rintro e W ⟨rfl, hbc⟩; replace hr := hr.bl hbc; replace hm := hm.bl hbc; replace hL := own_bel hL hbc; replace hb := hb.trans (hbc.mono hb.size); replace hS := Nat.le_trans hS hbc.size; clear hbc; obtain ⟨N1, hN10⟩ : ∃ y, W.heap.size = y := ⟨_, rfl⟩; have hN1 := hide hN10; have lN1 : w.heap.size + 1 + 1 ≤ N1 := hN10 ▸ hS; have hlv : ∀ y, (Value.slice av na cap).ownBlock = some y → w.heap.size + 1 + 1 ≤ y ∧ y < N1 := (fun y hy => hN10 ▸ hL.lt y hy); clear hN10))
                        go_ret2
                        refine ⟨hb, .inl ⟨?_, rfl⟩⟩
                        rw [HFO.out, HFS.out, if_pos HOD.out]
                        rfl
                    · cases wro with
                      | false =>
                        have HOD : Hid (oddE 2 sum false d = false) := hide (by rw [HEO.out, HEW.out.1, HSM.out]; simp [c1, c3, c4])
                        have HH2 : Hid (hw2 = false) := hide HEW.out.1
                        have HH1 : Hid (hf1 = true) := hide HEW.out.2
                        rw [HH2.out] at HSG
                        have hs9 : sm ≤ 1048576 := by omega
                        clear c1 c2 c3 c4 hsm2
                        clear hsz
                        go_wp2_with (first | ((with_reducible refine ld_rsz w.heap.size _ _ hr ?_ ?_ ?_); exact rfl; exact rfl) | ((with_reducible refine ld_rde w.heap.size _ _ hr ?_ ?_ ?_); exact rfl; exact rfl) | ((with_reducible refine ld_Rw (w.heap.size + 1) rp 8192 2 hm ?_ ?_ ?_); exact rfl; exact rfl) | (go_at_call 32; (with_reducible refine (HL0.out _ _ hb ?_).mono ?_); (first | omega | (simp; omega)); rintro e W ⟨rfl, hbc⟩; replace hr := hr.bl hbc; replace hm := hm.bl hbc; replace hL := own_bel hL hbc; replace hb := hb.trans (hbc.mono hb.size); replace hS := Nat.le_trans hS hbc.size; clear hbc) | (go_at_call 32; (with_reducible refine (HL1.out _ _ hb ?_).mono ?_); (first | omega | (simp; omega)); rintro e W ⟨rfl, hbc⟩; replace hr := hr.bl hbc; replace hm := hm.bl hbc; replace hL := own_bel hL hbc; replace hb := hb.trans (hbc.mono hb.size); replace hS := Nat.le_trans hS hbc.size; clear hbc) | (go_at_call 32; (with_reducible refine (HL2.out _ _ hb ?_).mono ?_); (first | omega | (simp; omega)); rintro e W ⟨rfl, hbc⟩; replace hr := hr.bl hbc; replace hm := hm.bl hbc; replace hL := own_bel hL hbc; replace hb := hb.trans (hbc.mono hb.size); replace hS := Nat.le_trans hS hbc.size; clear hbc) | (go_at_call 32; (with_reducible refine (HL3.out _ _ hb ?_).mono ?_); (first | omega | (simp; omega)); rintro e W ⟨rfl, hbc⟩; replace hr := hr.bl hbc; replace hm := hm.bl hbc; replace hL := own_bel hL hbc; replace hb := hb.trans (hbc.mono hb.size); replace hS := Nat.le_trans hS hbc.size; clear hbc) | (go_at_call 32; (with_reducible refine (HL4.out _ _ hb ?_).mono ?_); (first | omega | (simp; omega)); rintro e W ⟨rfl, hbc⟩; replace hr := hr.bl hbc; replace hm := hm.bl hbc; replace hL := own_bel hL hbc; replace hb := hb.trans (hbc.mono hb.size); replace hS := Nat.le_trans hS hbc.size; clear hbc) | (go_at_call 39; (with_reducible refine (HTH.out _).mono ?_); rintro e W ⟨rfl, hbc⟩; replace hr := hr.bl hbc; replace hm := hm.bl hbc; replace hL := own_bel hL hbc; replace hb := hb.trans (hbc.mono hb.size); replace hS := Nat.le_trans hS hbc.size; clear hbc; obtain ⟨N1, hN10⟩ : ∃ y, W.heap.size = y := ⟨_, rfl⟩; have hN1 := hide hN10; have lN1 : w.heap.size + 1 + 1 ≤ N1 := hN10 ▸ hS; have hlv : ∀ y, (Value.slice av na cap).ownBlock = some y → w.heap.size + 1 + 1 ≤ y ∧ y < N1 := (fun y hy => hN10 ▸ hL.lt y hy); clear hN10) | ((with_reducible refine bs_r N1 ?_ sd ?_ ?_); exact hN1.out; (exact congrArg Value.agg HSG.out.symm); intro W hbr hb' hz; have hbc := hN1.out.symm ▸ hb'; replace hr := hr.bl hbc; replace hm := hm.bl hbc; replace hL := own_bel hL hbc; replace hb := hb.trans (hbc.mono hb.size); replace hS := Nat.le_trans hS hbc.size; clear hbc; clear hb') | ((with_reducible refine app_r acc sd na HNA.out hL N1 hbr (by omega) hS ?_ ?_ ?_); exact rfl; exact rfl; intro W v' hL2 hg hbk; replace hr := grow_row hr hg (fun e => absurd (hlv _ e).1 (by omega)); replace hm := grow_row hm hg (fun e => absurd (hlv _ e).1 (by omega)); have hwS := Nat.le_trans (Nat.le_succ _) (Nat.le_trans (Nat.le_succ _) hS); replace hb := grow_below hb hg hwS (fun y e => by have := (hlv y e).1; omega); replace hS := Nat.le_trans hS hg.size; replace hL := hL2; clear hL2 hg hbk hbr))
                        go_roundw
                        case rel =>
                          refine ⟨acc ++ [sd], sm, false, (nx : Int), by rw [List.length_append, HNA.out]; exact hlt, by rw [List.length_append, HNA.out]; go_num, by go_num, by omega, rfl, by omega, by omega, rfl, ?_, by rw [List.length_append, HNA.out]; exact hL, hr, hm, hb, hS⟩
                          rw [HFO.out, HFS.out, if_neg (by rw [HOD.out]; decide), if_pos HH1.out, Option.map_map, List.length_append, HNA.out, HSM.out, HH2.out, show k - na - 1 = k - (na + [sd].length) from by simp; omega]
                          congr 1
                          funext l
                          simp
                        case measure => simp [intOf]; omega
                      | true =>
                        have HOD : Hid (oddE 2 sum true d = true) := hide (by rw [HEO.out, HEW.out.1]; simp)
                        clear c1 c2 c3 c4 hsm2 hsz
                        go_wp2_with (first | ((with_reducible refine ld_rsz w.heap.size _ _ hr ?_ ?_ ?_); exact rfl; exact rfl) | ((with_reducible refine ld_rde w.heap.size _ _ hr ?_ ?_ ?_); exact rfl; exact rfl) | ((with_reducible refine ld_Rw (w.heap.size + 1) rp 8192 2 hm ?_ ?_ ?_); exact rfl; exact rfl) | (go_at_call 32; (with_reducible refine (HL0.out _ _ hb ?_).mono ?_); (first | omega | (simp; omega)); rintro e W ⟨rfl, hbc⟩; replace hr := hr.bl hbc; replace hm := hm.bl hbc; replace hL := own_bel hL hbc; replace hb := hb.trans (hbc.mono hb.size); replace hS := Nat.le_trans hS hbc.size; clear hbc) | (go_at_call 32; (with_reducible refine (HL1.out _ _ hb ?_).mono ?_); (first | omega | (simp; omega)); rintro e W ⟨rfl, hbc⟩; replace hr := hr.bl hbc; replace hm := hm.bl hbc; replace hL := own_bel hL hbc; replace hb := hb.trans (hbc.mono hb.size); replace hS := Nat.le_trans hS hbc.size; clear hbc) | (go_at_call 32; (with_reducible refine (HL2.out _ _ hb ?_).mono ?_); (first | omega | (simp; omega)); rintro e W ⟨rfl, hbc⟩; replace hr := hr.bl hbc; replace hm := hm.bl hbc; replace hL := own_bel hL hbc; replace hb := hb.trans (hbc.mono hb.size); replace hS := Nat.le_trans hS hbc.size; clear hbc) | (go_at_call 32; (with_reducible refine (HL3.out _ _ hb ?_).mono ?_); (first | omega | (simp; omega)); rintro e W ⟨rfl, hbc⟩; replace hr := hr.bl hbc; replace hm := hm.bl hbc; replace hL := own_bel hL hbc; replace hb := hb.trans (hbc.mono hb.size); replace hS := Nat.le_trans hS hbc.size; clear hbc) | (go_at_call 32; (with_reducible refine (HL4.out _ _ hb ?_).mono ?_); (first | omega | (simp; omega)); rintro e W ⟨rfl, hbc⟩; replace hr := hr.bl hbc; replace hm := hm.bl hbc; replace hL := own_bel hL hbc; replace hb := hb.trans (hbc.mono hb.size); replace hS := Nat.le_trans hS hbc.size; clear hbc) | (go_at_call 39; (with_reducible refine (HTH.out _).mono ?_); rintro e W ⟨rfl, hbc⟩; replace hr := hr.bl hbc; replace hm := hm.bl hbc; replace hL := own_bel hL hbc; replace hb := hb.trans (hbc.mono hb.size); replace hS := Nat.le_trans hS hbc.size; clear hbc; obtain ⟨N1, hN10⟩ : ∃ y, W.heap.size = y := ⟨_, rfl⟩; have hN1 := hide hN10; have lN1 : w.heap.size + 1 + 1 ≤ N1 := hN10 ▸ hS; have hlv : ∀ y, (Value.slice av na cap).ownBlock = some y → w.heap.size + 1 + 1 ≤ y ∧ y < N1 := (fun y hy => hN10 ▸ hL.lt y hy); clear hN10))
                        go_ret2
                        refine ⟨hb, .inl ⟨?_, rfl⟩⟩
                        rw [HFO.out, HFS.out, if_pos HOD.out]
                        rfl
                    · cases wro with
                      | false =>
                        have HOD : Hid (oddE 2 sum false d = false) := hide (by rw [HEO.out, HEW.out.1, HSM.out]; simp [c1, c3, c4])
                        have HH2 : Hid (hw2 = true) := hide HEW.out.1
                        have HH1 : Hid (hf1 = false) := hide HEW.out.2
                        rw [HH2.out] at HSG
                        have hs9 : sm ≤ 1048576 := by omega
                        clear c1 c2 c3 c4 hsm2
                        clear hsz
                        go_wp2_with (first | ((with_reducible refine ld_rsz w.heap.size _ _ hr ?_ ?_ ?_); exact rfl; exact rfl) | ((with_reducible refine ld_rde w.heap.size _ _ hr ?_ ?_ ?_); exact rfl; exact rfl) | ((with_reducible refine ld_Rw (w.heap.size + 1) rp 8192 2 hm ?_ ?_ ?_); exact rfl; exact rfl) | (go_at_call 32; (with_reducible refine (HL0.out _ _ hb ?_).mono ?_); (first | omega | (simp; omega)); rintro e W ⟨rfl, hbc⟩; replace hr := hr.bl hbc; replace hm := hm.bl hbc; replace hL := own_bel hL hbc; replace hb := hb.trans (hbc.mono hb.size); replace hS := Nat.le_trans hS hbc.size; clear hbc) | (go_at_call 32; (with_reducible refine (HL1.out _ _ hb ?_).mono ?_); (first | omega | (simp; omega)); rintro e W ⟨rfl, hbc⟩; replace hr := hr.bl hbc; replace hm := hm.bl hbc; replace hL := own_bel hL hbc; replace hb := hb.trans (hbc.mono hb.size); replace hS := Nat.le_trans hS hbc.size; clear hbc) | (go_at_call 32; (with_reducible refine (HL2.out _ _ hb ?_).mono ?_); (first | omega | (simp; omega)); rintro e W ⟨rfl, hbc⟩; replace hr := hr.bl hbc; replace hm := hm.bl hbc; replace hL := own_bel hL hbc; replace hb := hb.trans (hbc.mono hb.size); replace hS := Nat.le_trans hS hbc.size; clear hbc) | (go_at_call 32; (with_reducible refine (HL3.out _ _ hb ?_).mono ?_); (first | omega | (simp; omega)); rintro e W ⟨rfl, hbc⟩; replace hr := hr.bl hbc; replace hm := hm.bl hbc; replace hL := own_bel hL hbc; replace hb := hb.trans (hbc.mono hb.size); replace hS := Nat.le_trans hS hbc.size; clear hbc) | (go_at_call 32; (with_reducible refine (HL4.out _ _ hb ?_).mono ?_); (first | omega | (simp; omega)); rintro e W ⟨rfl, hbc⟩; replace hr := hr.bl hbc; replace hm := hm.bl hbc; replace hL := own_bel hL hbc; replace hb := hb.trans (hbc.mono hb.size); replace hS := Nat.le_trans hS hbc.size; clear hbc) | (go_at_call 39; (with_reducible refine (HTH.out _).mono ?_); rintro e W ⟨rfl, hbc⟩; replace hr := hr.bl hbc; replace hm := hm.bl hbc; replace hL := own_bel hL hbc; replace hb := hb.trans (hbc.mono hb.size); replace hS := Nat.le_trans hS hbc.size; clear hbc; obtain ⟨N1, hN10⟩ : ∃ y, W.heap.size = y := ⟨_, rfl⟩; have hN1 := hide hN10; have lN1 : w.heap.size + 1 + 1 ≤ N1 := hN10 ▸ hS; have hlv : ∀ y, (Value.slice av na cap).ownBlock = some y → w.heap.size + 1 + 1 ≤ y ∧ y < N1 := (fun y hy => hN10 ▸ hL.lt y hy); clear hN10) | ((with_reducible refine bs_r N1 ?_ sd ?_ ?_); exact hN1.out; (exact congrArg Value.agg HSG.out.symm); intro W hbr hb' hz; have hbc := hN1.out.symm ▸ hb'; replace hr := hr.bl hbc; replace hm := hm.bl hbc; replace hL := own_bel hL hbc; replace hb := hb.trans (hbc.mono hb.size); replace hS := Nat.le_trans hS hbc.size; clear hbc; clear hb') | ((with_reducible refine app_r acc sd na HNA.out hL N1 hbr (by omega) hS ?_ ?_ ?_); exact rfl; exact rfl; intro W v' hL2 hg hbk; replace hr := grow_row hr hg (fun e => absurd (hlv _ e).1 (by omega)); replace hm := grow_row hm hg (fun e => absurd (hlv _ e).1 (by omega)); have hwS := Nat.le_trans (Nat.le_succ _) (Nat.le_trans (Nat.le_succ _) hS); replace hb := grow_below hb hg hwS (fun y e => by have := (hlv y e).1; omega); replace hS := Nat.le_trans hS hg.size; replace hL := hL2; clear hL2 hg hbk hbr))
                        go_ret2
                        refine ⟨hb, .inr ⟨acc ++ [sd], _, ?_, rfl, by rw [List.length_append, HNA.out]; exact own_lower2' hL⟩⟩
                        rw [HFO.out, HFS.out, if_neg (by rw [HOD.out]; decide), if_neg (by rw [HH1.out]; decide)]
                        rfl
                      | true =>
                        have HOD : Hid (oddE 2 sum true d = false) := hide (by rw [HEO.out, HEW.out.1, HSM.out]; simp [c1, c3, c4])
                        have HH2 : Hid (hw2 = true) := hide HEW.out.1
                        have HH1 : Hid (hf1 = false) := hide HEW.out.2
                        rw [HH2.out] at HSG
                        have hs9 : sm ≤ 1048576 := by omega
                        clear c1 c2 c3 c4 hsm2
                        clear hsz
                        go_wp2_with (first | ((with_reducible refine ld_rsz w.heap.size _ _ hr ?_ ?_ ?_); exact rfl; exact rfl) | ((with_reducible refine ld_rde w.heap.size _ _ hr ?_ ?_ ?_); exact rfl; exact rfl) | ((with_reducible refine ld_Rw (w.heap.size + 1) rp 8192 2 hm ?_ ?_ ?_); exact rfl; exact rfl) | (go_at_call 32; (with_reducible refine (HL0.out _ _ hb ?_).mono ?_); (first | omega | (simp; omega)); rintro e W ⟨rfl, hbc⟩; replace hr := hr.bl hbc; replace hm := hm.bl hbc; replace hL := own_bel hL hbc; replace hb := hb.trans (hbc.mono hb.size); replace hS := Nat.le_trans hS hbc.size; clear hbc) | (go_at_call 32; (with_reducible refine (HL1.out _ _ hb ?_).mono ?_); (first | omega | (simp; omega)); rintro e W ⟨rfl, hbc⟩; replace hr := hr.bl hbc; replace hm := hm.bl hbc; replace hL := own_bel hL hbc; replace hb := hb.trans (hbc.mono hb.size); replace hS := Nat.le_trans hS hbc.size; clear hbc) | (go_at_call 32; (with_reducible refine (HL2.out _ _ hb ?_).mono ?_); (first | omega | (simp; omega)); rintro e W ⟨rfl, hbc⟩; replace hr := hr.bl hbc; replace hm := hm.bl hbc; replace hL := own_bel hL hbc; replace hb := hb.trans (hbc.mono hb.size); replace hS := Nat.le_trans hS hbc.size; clear hbc) | (go_at_call 32; (with_reducible refine (HL3.out _ _ hb ?_).mono ?_); (first | omega | (simp; omega)); rintro e W ⟨rfl, hbc⟩; replace hr := hr.bl hbc; replace hm := hm.bl hbc; replace hL := own_bel hL hbc; replace hb := hb.trans (hbc.mono hb.size); replace hS := Nat.le_trans hS hbc.size; clear hbc) | (go_at_call 32; (with_reducible refine (HL4.out _ _ hb ?_).mono ?_); (first | omega | (simp; omega)); rintro e W ⟨rfl, hbc⟩; replace hr := hr.bl hbc; replace hm := hm.bl hbc; replace hL := own_bel hL hbc; replace hb := hb.trans (hbc.mono hb.size); replace hS := Nat.le_trans hS hbc.size; clear hbc) | (go_at_call 39; (with_reducible refine (HTH.out _).mono ?_); rintro e W ⟨rfl, hbc⟩; replace hr := hr.bl hbc; replace hm := hm.bl hbc; replace hL := own_bel hL hbc; replace hb := hb.trans (hbc.mono hb.size); replace hS := Nat.le_trans hS hbc.size; clear hbc; obtain ⟨N1, hN10⟩ : ∃ y, W.heap.size = y := ⟨_, rfl⟩; have hN1 := hide hN10; have lN1 : w.heap.size + 1 + 1 ≤ N1 := hN10 ▸ hS; have hlv : ∀ y, (Value.slice av na cap).ownBlock = some y → w.heap.size + 1 + 1 ≤ y ∧ y < N1 := (fun y hy => hN10 ▸ hL.lt y hy); clear hN10) | ((with_reducible refine bs_r N1 ?_ sd ?_ ?_); exact hN1.out; (exact congrArg Value.agg HSG.out.symm); intro W hbr hb' hz; have hbc := hN1.out.symm ▸ hb'; replace hr := hr.bl hbc; replace hm := hm.bl hbc; replace hL := own_bel hL hbc; replace hb := hb.trans (hbc.mono hb.size); replace hS := Nat.le_trans hS hbc.size; clear hbc; clear hb') | ((with_reducible refine app_r acc sd na HNA.out hL N1 hbr (by omega) hS ?_ ?_ ?_); exact rfl; exact rfl; intro W v' hL2 hg hbk; replace hr := grow_row hr hg (fun e => absurd (hlv _ e).1 (by omega)); replace hm := grow_row hm hg (fun e => absurd (hlv _ e).1 (by omega)); have hwS := Nat.le_trans (Nat.le_succ _) (Nat.le_trans (Nat.le_succ _) hS); replace hb := grow_below hb hg hwS (fun y e => by have := (hlv y e).1; omega); replace hS := Nat.le_trans hS hg.size; replace hL := hL2; clear hL2 hg hbk hbr))
                        go_ret2
                        refine ⟨hb, .inr ⟨acc ++ [sd], _, ?_, rfl, by rw [List.length_append, HNA.out]; exact own_lower2' hL⟩⟩
                        rw [HFO.out, HFS.out, if_neg (by rw [HOD.out]; decide), if_neg (by rw [HH1.out]; decide)]
                        rfl
                    · cases wro with
                      | false =>
                        have HOD : Hid (oddE 2 sum false d = false) := hide (by rw [HEO.out, HEW.out.1, HSM.out]; simp [c1, c3, c4])
                        have HH2 : Hid (hw2 = true) := hide HEW.out.1
                        have HH1 : Hid (hf1 = true) := hide HEW.out.2
                        rw [HH2.out] at HSG
                        have hs9 : sm ≤ 1048576 := by omega
                        clear c1 c2 c3 c4 hsm2
                        clear hsz
                        go_wp2_with (first | ((with_reducible refine ld_rsz w.heap.size _ _ hr ?_ ?_ ?_); exact rfl; exact rfl) | ((with_reducible refine ld_rde w.heap.size _ _ hr ?_ ?_ ?_); exact rfl; exact rfl) | ((with_reducible refine ld_Rw (w.heap.size + 1) rp 8192 2 hm ?_ ?_ ?_); exact rfl; exact rfl) | (go_at_call 32; (with_reducible refine (HL0.out _ _ hb ?_).mono ?_); (first | omega | (simp; omega)); rintro e W ⟨rfl, hbc⟩; replace hr := hr.bl hbc; replace hm := hm.bl hbc; replace hL := own_bel hL hbc; replace hb := hb.trans (hbc.mono hb.size); replace hS := Nat.le_trans hS hbc.size; clear hbc) | (go_at_call 32; (with_reducible refine (HL1.out _ _ hb ?_).mono ?_); (first | omega | (simp; omega)); rintro e W ⟨rfl, hbc⟩; replace hr := hr.bl hbc; replace hm := hm.bl hbc; replace hL := own_bel hL hbc; replace hb := hb.trans (hbc.mono hb.size); replace hS := Nat.le_trans hS hbc.size; clear hbc) | (go_at_call 32; (with_reducible refine (HL2.out _ _ hb ?_).mono ?_); (first | omega | (simp; omega)); rintro e W ⟨rfl, hbc⟩; replace hr := hr.bl hbc; replace hm := hm.bl hbc; replace hL := own_bel hL hbc; replace hb := hb.trans (hbc.mono hb.size); replace hS := Nat.le_trans hS hbc.size; clear hbc) | (go_at_call 32; (with_reducible refine (HL3.out _ _ hb ?_).mono ?_); (first | omega | (simp; omega)); rintro e W ⟨rfl, hbc⟩; replace hr := hr.bl hbc; replace hm := hm.bl hbc; replace hL := own_bel hL hbc; replace hb := hb.trans (hbc.mono hb.size); replace hS := Nat.le_trans hS hbc.size; clear hbc) | (go_at_call 32; (with_reducible refine (HL4.out _ _ hb ?_).mono ?_); (first | omega | (simp; omega)); rintro e W ⟨rfl, hbc⟩; replace hr := hr.bl hbc; replace hm := hm.bl hbc; replace hL := own_bel hL hbc; replace hb := hb.trans (hbc.mono hb.size); replace hS := Nat.le_trans hS hbc.size; clear hbc) | (go_at_call 39; (with_reducible refine (HTH.out _).mono ?_); rintro e W ⟨rfl, hbc⟩; replace hr := hr.bl hbc; replace hm := hm.bl hbc; replace hL := own_bel hL hbc; replace hb := hb.trans (hbc.mono hb.size); replace hS := Nat.le_trans hS hbc.size; clear hbc; obtain ⟨N1, hN10⟩ : ∃ y, W.heap.size = y := ⟨_, rfl⟩; have hN1 := hide hN10; have lN1 : w.heap.size + 1 + 1 ≤ N1 := hN10 ▸ hS; have hlv : ∀ y, (Value.slice av na cap).ownBlock = some y → w.heap.size + 1 + 1 ≤ y ∧ y < N1 := (fun y hy => hN10 ▸ hL.lt y hy); clear hN10) | ((with_reducible refine bs_r N1 ?_ sd ?_ ?_); exact hN1.out; (exact congrArg Value.agg HSG.out.symm); intro W hbr hb' hz; have hbc := hN1.out.symm ▸ hb'; replace hr := hr.bl hbc; replace hm := hm.bl hbc; replace hL := own_bel hL hbc; replace hb := hb.trans (hbc.mono hb.size); replace hS := Nat.le_trans hS hbc.size; clear hbc; clear hb') | ((with_reducible refine app_r acc sd na HNA.out hL N1 hbr (by omega) hS ?_ ?_ ?_); exact rfl; exact rfl; intro W v' hL2 hg hbk; replace hr := grow_row hr hg (fun e => absurd (hlv _ e).1 (by omega)); replace hm := grow_row hm hg (fun e => absurd (hlv _ e).1 (by omega)); have hwS := Nat.le_trans (Nat.le_succ _) (Nat.le_trans (Nat.le_succ _) hS); replace hb := grow_below hb hg hwS (fun y e => by have := (hlv y e).1; omega); replace hS := Nat.le_trans hS hg.size; replace hL := hL2; clear hL2 hg hbk hbr))
                        go_roundw
                        case rel =>
                          refine ⟨acc ++ [sd], sm, true, (nx : Int), by rw [List.length_append, HNA.out]; exact hlt, by rw [List.length_append, HNA.out]; go_num, by go_num, by omega, rfl, by omega, by omega, rfl, ?_, by rw [List.length_append, HNA.out]; exact hL, hr, hm, hb, hS⟩
                          rw [HFO.out, HFS.out, if_neg (by rw [HOD.out]; decide), if_pos HH1.out, Option.map_map, List.length_append, HNA.out, HSM.out, HH2.out, show k - na - 1 = k - (na + [sd].length) from by simp; omega]
                          congr 1
                          funext l
                          simp
                        case measure => simp [intOf]; omega
                      | true =>
                        have HOD : Hid (oddE 2 sum true d = false) := hide (by rw [HEO.out, HEW.out.1, HSM.out]; simp [c1, c3, c4])
                        have HH2 : Hid (hw2 = true) := hide HEW.out.1
                        have HH1 : Hid (hf1 = true) := hide HEW.out.2
                        rw [HH2.out] at HSG
                        have hs9 : sm ≤ 1048576 := by omega
                        clear c1 c2 c3 c4 hsm2
                        clear hsz
                        go_wp2_with (first | ((with_reducible refine ld_rsz w.heap.size _ _ hr ?_ ?_ ?_); exact rfl; exact rfl) | ((with_reducible refine ld_rde w.heap.size _ _ hr ?_ ?_ ?_); exact rfl; exact rfl) | ((with_reducible refine ld_Rw (w.heap.size + 1) rp 8192 2 hm ?_ ?_ ?_); exact rfl; exact rfl) | (go_at_call 32; (with_reducible refine (HL0.out _ _ hb ?_).mono ?_); (first | omega | (simp; omega)); rintro e W ⟨rfl, hbc⟩; replace hr := hr.bl hbc; replace hm := hm.bl hbc; replace hL := own_bel hL hbc; replace hb := hb.trans (hbc.mono hb.size); replace hS := Nat.le_trans hS hbc.size; clear hbc) | (go_at_call 32; (with_reducible refine (HL1.out _ _ hb ?_).mono ?_); (first | omega | (simp; omega)); rintro e W ⟨rfl, hbc⟩; replace hr := hr.bl hbc; replace hm := hm.bl hbc; replace hL := own_bel hL hbc; replace hb := hb.trans (hbc.mono hb.size); replace hS := Nat.le_trans hS hbc.size; clear hbc) | (go_at_call 32; (with_reducible refine (HL2.out _ _ hb ?_).mono ?_); (first | omega | (simp; omega)); rintro e W ⟨rfl, hbc⟩; replace hr := hr.bl hbc; replace hm := hm.bl hbc; replace hL := own_bel hL hbc; replace hb := hb.trans (hbc.mono hb.size); replace hS := Nat.le_trans hS hbc.size; clear hbc) | (go_at_call 32; (with_reducible refine (HL3.out _ _ hb ?_).mono ?_); (first | omega | (simp; omega)); rintro e W ⟨rfl, hbc⟩; replace hr := hr.bl hbc; replace hm := hm.bl hbc; replace hL := own_bel hL hbc; replace hb := hb.trans (hbc.mono hb.size); replace hS := Nat.le_trans hS hbc.size; clear hbc) | (go_at_call 32; (with_reducible refine (HL4.out _ _ hb ?_).mono ?_); (first | omega | (simp; omega)); rintro e W ⟨rfl, hbc⟩; replace hr := hr.bl hbc; replace hm := hm.bl hbc; replace hL := own_bel hL hbc; replace hb := hb.trans (hbc.mono hb.size); replace hS := Nat.le_trans hS hbc.size; clear hbc) | (go_at_call 39; (with_reducible refine (HTH.out _).mono ?_); rintro e W ⟨rfl, hbc⟩; replace hr := hr.bl hbc; replace hm := hm.bl hbc; replace hL := own_bel hL hbc; replace hb := hb.trans (hbc.mono hb.size); replace hS := Nat.le_trans hS hbc.size; clear hbc; obtain ⟨N1, hN10⟩ : ∃ y, W.heap.size = y := ⟨_, rfl⟩; have hN1 := hide hN10; have lN1 : w.heap.size + 1 + 1 ≤ N1 := hN10 ▸ hS; have hlv : ∀ y, (Value.slice av na cap).ownBlock = some y → w.heap.size + 1 + 1 ≤ y ∧ y < N1 := (fun y hy => hN10 ▸ hL.lt y hy); clear hN10) | ((with_reducible refine bs_r N1 ?_ sd ?_ ?_); exact hN1.out; (exact congrArg Value.agg HSG.out.symm); intro W hbr hb' hz; have hbc := hN1.out.symm ▸ hb'; replace hr := hr.bl hbc; replace hm := hm.bl hbc; replace hL := own_bel hL hbc; replace hb := hb.trans (hbc.mono hb.size); replace hS := Nat.le_trans hS hbc.size; clear hbc; clear hb') | ((with_reducible refine app_r acc sd na HNA.out hL N1 hbr (by omega) hS ?_ ?_ ?_); exact rfl; exact rfl; intro W v' hL2 hg hbk; replace hr := grow_row hr hg (fun e => absurd (hlv _ e).1 (by omega)); replace hm := grow_row hm hg (fun e => absurd (hlv _ e).1 (by omega)); have hwS := Nat.le_trans (Nat.le_succ _) (Nat.le_trans (Nat.le_succ _) hS); replace hb := grow_below hb hg hwS (fun y e => by have := (hlv y e).1; omega); replace hS := Nat.le_trans hS hg.size; replace hL := hL2; clear hL2 hg hbk hbr))
                        go_roundw
                        case rel =>
                          refine ⟨acc ++ [sd], sm, true, (nx : Int), by rw [List.length_append, HNA.out]; exact hlt, by rw [List.length_append, HNA.out]; go_num, by go_num, by omega, rfl, by omega, by omega, rfl, ?_, by rw [List.length_append, HNA.out]; exact hL, hr, hm, hb, hS⟩
                          rw [HFO.out, HFS.out, if_neg (by rw [HOD.out]; decide), if_pos HH1.out, Option.map_map, List.length_append, HNA.out, HSM.out, HH2.out, show k - na - 1 = k - (na + [sd].length) from by simp; omega]
                          congr 1
                          funext l
                          simp
                        case measure => simp [intOf]; omega
            · have d2 : (3 : Int) < (mk : Int) := by omega
              have HOD : Hid (oddE 2 sum wro d = true) := hide (by rw [HEO.out]; simp; omega)
              clear c1 c2 ewr
              clear hsz
              go_wp2_with (first | ((with_reducible refine ld_rsz w.heap.size _ _ hr ?_ ?_ ?_); exact rfl; exact rfl) | ((with_reducible refine ld_rde w.heap.size _ _ hr ?_ ?_ ?_); exact rfl; exact rfl) | ((with_reducible refine ld_Rw (w.heap.size + 1) rp 8192 2 hm ?_ ?_ ?_); exact rfl; exact rfl) | (go_at_call 32; (with_reducible refine (HL0.out _ _ hb ?_).mono ?_); (first | omega | (simp; omega)); rintro e W ⟨rfl, hbc⟩; replace hr := hr.bl hbc; replace hm := hm.bl hbc; replace hL := own_bel hL hbc; replace hb := hb.trans (hbc.mono hb.size); replace hS := Nat.le_trans hS hbc.size; clear hbc) | (go_at_call 32; (with_reducible refine (HL1.out _ _ hb ?_).mono ?_); (first | omega | (simp; omega)); rintro e W ⟨rfl, hbc⟩; replace hr := hr.bl hbc; replace hm := hm.bl hbc; replace hL := own_bel hL hbc; replace hb := hb.trans (hbc.mono hb.size); replace hS := Nat.le_trans hS hbc.size; clear hbc) | (go_at_call 32; (with_reducible refine (HL2.out _ _ hb ?_).mono ?_); (first | omega | (simp; omega)); rintro e W ⟨rfl, hbc⟩; replace hr := hr.bl hbc; replace hm := hm.bl hbc; replace hL := own_bel hL hbc; replace hb := hb.trans (hbc.mono hb.size); replace hS := Nat.le_trans hS hbc.size; clear hbc) | (go_at_call 32; (with_reducible refine (HL3.out _ _ hb ?_).mono ?_); (first | omega | (simp; omega)); rintro e W ⟨rfl, hbc⟩; replace hr := hr.bl hbc; replace hm := hm.bl hbc; replace hL := own_bel hL hbc; replace hb := hb.trans (hbc.mono hb.size); replace hS := Nat.le_trans hS hbc.size; clear hbc) | (go_at_call 32; (with_reducible refine (HL4.out _ _ hb ?_).mono ?_); (first | omega | (simp; omega)); rintro e W ⟨rfl, hbc⟩; replace hr := hr.bl hbc; replace hm := hm.bl hbc; replace hL := own_bel hL hbc; replace hb := hb.trans (hbc.mono hb.size); replace hS := Nat.le_trans hS hbc.size; clear hbc) | (go_at_call 39; (with_reducible refine (HTH.out _).mono ?_); rintro e W ⟨rfl, hbc⟩; replace hr := hr.bl hbc; replace hm := hm.bl hbc; replace hL := own_bel hL hbc; replace hb := hb.trans (hbc.mono hb.size); replace hS := Nat.le_trans hS hbc.size; clear hbc; obtain ⟨N1, hN10⟩ : ∃ y, W.heap.size = y := ⟨_, rfl⟩; have hN1 := hide hN10; have lN1 : w.heap.size + 1 + 1 ≤ N1 := hN10 ▸ hS; have hlv : ∀ y, (Value.slice av na cap).ownBlock = some y → w.heap.size + 1 + 1 ≤ y ∧ y < N1 := (fun y hy => hN10 ▸ hL.lt y hy); clear hN10))
              go_ret2
              refine ⟨hb, .inl ⟨?_, rfl⟩⟩
              rw [HFO.out, HFS.out, if_pos HOD.out]
              rfl
          · have d1 : ((g1 : Int) != 0) = true := by simp; omega
            have HOD : Hid (oddE 2 sum wro d = true) := hide (by rw [HEO.out]; simp [c1])
            clear c1 ewr
            clear hsz
            go_wp2_with (first | ((with_reducible refine ld_rsz w.heap.size _ _ hr ?_ ?_ ?_); exact rfl; exact rfl) | ((with_reducible refine ld_rde w.heap.size _ _ hr ?_ ?_ ?_); exact rfl; exact rfl) | ((with_reducible refine ld_Rw (w.heap.size + 1) rp 8192 2 hm ?_ ?_ ?_); exact rfl; exact rfl) | (go_at_call 32; (with_reducible refine (HL0.out _ _ hb ?_).mono ?_); (first | omega | (simp; omega)); rintro e W ⟨rfl, hbc⟩; replace hr := hr.bl hbc; replace hm := hm.bl hbc; replace hL := own_bel hL hbc; replace hb := hb.trans (hbc.mono hb.size); replace hS := Nat.le_trans hS hbc.size; clear hbc) | (go_at_call 32; (with_reducible refine (HL1.out _ _ hb ?_).mono ?_); (first | omega | (simp; omega)); rintro e W ⟨rfl, hbc⟩; replace hr := hr.bl hbc; replace hm := hm.bl hbc; replace hL := own_bel hL hbc; replace hb := hb.trans (hbc.mono hb.size); replace hS := Nat.le_trans hS hbc.size; clear hbc) | (go_at_call 32; (with_reducible refine (HL2.out _ _ hb ?_).mono ?_); (first | omega | (simp; omega)); rintro e W ⟨rfl, hbc⟩; replace hr := hr.bl hbc; replace hm := hm.bl hbc; replace hL := own_bel hL hbc; replace hb := hb.trans (hbc.mono hb.size); replace hS := Nat.le_trans hS hbc.size; clear hbc) | (go_at_call 32; (with_reducible refine (HL3.out _ _ hb ?_).mono ?_); (first | omega | (simp; omega)); rintro e W ⟨rfl, hbc⟩; replace hr := hr.bl hbc; replace hm := hm.bl hbc; replace hL := own_bel hL hbc; replace hb := hb.trans (hbc.mono hb.size); replace hS := Nat.le_trans hS hbc.size; clear hbc) | (go_at_call 32; (with_reducible refine (HL4.out _ _ hb ?_).mono ?_); (first | omega | (simp; omega)); rintro e W ⟨rfl, hbc⟩; replace hr := hr.bl hbc; replace hm := hm.bl hbc; replace hL := own_bel hL hbc; replace hb := hb.trans (hbc.mono hb.size); replace hS := Nat.le_trans hS hbc.size; clear hbc) | (go_at_call 39; (with_reducible refine (HTH.out _).mono ?_); rintro e W ⟨rfl, hbc⟩; replace hr := hr.bl hbc; replace hm := hm.bl hbc; replace hL := own_bel hL hbc; replace hb := hb.trans (hbc.mono hb.size); replace hS := Nat.le_trans hS hbc.size; clear hbc; obtain ⟨N1, hN10⟩ : ∃ y, W.heap.size = y := ⟨_, rfl⟩; have hN1 := hide hN10; have lN1 : w.heap.size + 1 + 1 ≤ N1 := hN10 ▸ hS; have hlv : ∀ y, (Value.slice av na cap).ownBlock = some y → w.heap.size + 1 + 1 ≤ y ∧ y < N1 := (fun y hy => hN10 ▸ hL.lt y hy); clear hN10))
            go_ret2
            refine ⟨hb, .inl ⟨?_, rfl⟩⟩
            rw [HFO.out, HFS.out, if_pos HOD.out]
            rfl
        · have hpf : plB 2 (deA r m) 16 = false := by simpa using hpl
          rw [if_neg hpl] at hfs
          have HFS := hide hfs
          have LD : ∀ j kk, (kk = 2 ∨ kk = 4) → j % kk = 0 → j + kk ≤ 16 → ∀ W (z : Int), Below w.heap.size w W → z = ((deA r m + j : Nat) : Int) → Calls Tryz.prog 32 #[.agg (rp.v 8192 2), .int .u32 z, .int .i64 (kk : Nat)] W fun e w' => e = .returned (.tuple #[.int .u32 0, .bool false]) ∧ Below W.heap.size W w' := fun j kk h1 h2 h3 W z hb hz => by
            rw [hz]
            obtain ⟨q1, q2⟩ := de_at hxa hx (show j < 16 by omega)
            exact dload_no (HREF.out.bl hb) (deA r m + j) kk q1 h1 (by rcases h1 with rfl | rfl <;> omega) (de_none hxa hx hpf h3 (by omega))
          have HL0 : Hid (∀ W (z : Int), Below w.heap.size w W → z = ((deA r m + 0 : Nat) : Int) → Calls Tryz.prog 32 #[.agg (rp.v 8192 2), .int .u32 z, .int .i64 4] W fun e w' => e = .returned (.tuple #[.int .u32 0, .bool false]) ∧ Below W.heap.size W w') := hide (fun W z hb hz => LD 0 4 (.inr rfl) (by decide) (by decide) W z hb hz)
          have HL1 : Hid (∀ W (z : Int), Below w.heap.size w W → z = ((deA r m + 4 : Nat) : Int) → Calls Tryz.prog 32 #[.agg (rp.v 8192 2), .int .u32 z, .int .i64 4] W fun e w' => e = .returned (.tuple #[.int .u32 0, .bool false]) ∧ Below W.heap.size W w') := hide (fun W z hb hz => LD 4 4 (.inr rfl) (by decide) (by decide) W z hb hz)
          have HL2 : Hid (∀ W (z : Int), Below w.heap.size w W → z = ((deA r m + 8 : Nat) : Int) → Calls Tryz.prog 32 #[.agg (rp.v 8192 2), .int .u32 z, .int .i64 4] W fun e w' => e = .returned (.tuple #[.int .u32 0, .bool false]) ∧ Below W.heap.size W w') := hide (fun W z hb hz => LD 8 4 (.inr rfl) (by decide) (by decide) W z hb hz)
          have HL3 : Hid (∀ W (z : Int), Below w.heap.size w W → z = ((deA r m + 12 : Nat) : Int) → Calls Tryz.prog 32 #[.agg (rp.v 8192 2), .int .u32 z, .int .i64 2] W fun e w' => e = .returned (.tuple #[.int .u32 0, .bool false]) ∧ Below W.heap.size W w') := hide (fun W z hb hz => LD 12 2 (.inl rfl) (by decide) (by decide) W z hb hz)
          have HL4 : Hid (∀ W (z : Int), Below w.heap.size w W → z = ((deA r m + 14 : Nat) : Int) → Calls Tryz.prog 32 #[.agg (rp.v 8192 2), .int .u32 z, .int .i64 2] W fun e w' => e = .returned (.tuple #[.int .u32 0, .bool false]) ∧ Below W.heap.size W w') := hide (fun W z hb hz => LD 14 2 (.inl rfl) (by decide) (by decide) W z hb hz)
          obtain ⟨x, hxx⟩ : ∃ x, deA r m = x := ⟨_, rfl⟩
          rw [hxx] at HL0 HL1 HL2 HL3 HL4 hx hxa ed
          have hxl : x ≤ 4294967280 := by omega
          clear hpl hpf hfs LD hxx
          clear hsz
          go_wp2_with (first | ((with_reducible refine ld_rsz w.heap.size _ _ hr ?_ ?_ ?_); exact rfl; exact rfl) | ((with_reducible refine ld_rde w.heap.size _ _ hr ?_ ?_ ?_); exact rfl; exact rfl) | ((with_reducible refine ld_Rw (w.heap.size + 1) rp 8192 2 hm ?_ ?_ ?_); exact rfl; exact rfl) | (go_at_call 32; (with_reducible refine (HL0.out _ _ hb ?_).mono ?_); (first | omega | (simp; omega)); rintro e W ⟨rfl, hbc⟩; replace hr := hr.bl hbc; replace hm := hm.bl hbc; replace hL := own_bel hL hbc; replace hb := hb.trans (hbc.mono hb.size); replace hS := Nat.le_trans hS hbc.size; clear hbc) | (go_at_call 32; (with_reducible refine (HL1.out _ _ hb ?_).mono ?_); (first | omega | (simp; omega)); rintro e W ⟨rfl, hbc⟩; replace hr := hr.bl hbc; replace hm := hm.bl hbc; replace hL := own_bel hL hbc; replace hb := hb.trans (hbc.mono hb.size); replace hS := Nat.le_trans hS hbc.size; clear hbc) | (go_at_call 32; (with_reducible refine (HL2.out _ _ hb ?_).mono ?_); (first | omega | (simp; omega)); rintro e W ⟨rfl, hbc⟩; replace hr := hr.bl hbc; replace hm := hm.bl hbc; replace hL := own_bel hL hbc; replace hb := hb.trans (hbc.mono hb.size); replace hS := Nat.le_trans hS hbc.size; clear hbc) | (go_at_call 32; (with_reducible refine (HL3.out _ _ hb ?_).mono ?_); (first | omega | (simp; omega)); rintro e W ⟨rfl, hbc⟩; replace hr := hr.bl hbc; replace hm := hm.bl hbc; replace hL := own_bel hL hbc; replace hb := hb.trans (hbc.mono hb.size); replace hS := Nat.le_trans hS hbc.size; clear hbc) | (go_at_call 32; (with_reducible refine (HL4.out _ _ hb ?_).mono ?_); (first | omega | (simp; omega)); rintro e W ⟨rfl, hbc⟩; replace hr := hr.bl hbc; replace hm := hm.bl hbc; replace hL := own_bel hL hbc; replace hb := hb.trans (hbc.mono hb.size); replace hS := Nat.le_trans hS hbc.size; clear hbc) | (go_at_call 39; (with_reducible refine (HTH.out _).mono ?_); rintro e W ⟨rfl, hbc⟩; replace hr := hr.bl hbc; replace hm := hm.bl hbc; replace hL := own_bel hL hbc; replace hb := hb.trans (hbc.mono hb.size); replace hS := Nat.le_trans hS hbc.size; clear hbc; obtain ⟨N1, hN10⟩ : ∃ y, W.heap.size = y := ⟨_, rfl⟩; have hN1 := hide hN10; have lN1 : w.heap.size + 1 + 1 ≤ N1 := hN10 ▸ hS; have hlv : ∀ y, (Value.slice av na cap).ownBlock = some y → w.heap.size + 1 + 1 ≤ y ∧ y < N1 := (fun y hy => hN10 ▸ hL.lt y hy); clear hN10))
          go_ret2
          refine ⟨hb, .inl ⟨?_, rfl⟩⟩
          rw [HFO.out, HFS.out]
          rfl
      · have hno : rwalk 2 f r (k - na) sum wro n = none := by
          rw [show k - na = (k - na - 1) + 1 by omega]
          simp only [rwalk]
          rw [if_neg hin]
        have HFS := hide hno
        clear hno
        by_cases hneg : n < 0
        · have t0 : decide (n < 0) = true := by simpa using hneg
          clear hin
          clear hsz
          go_wp2_with (first | ((with_reducible refine ld_rsz w.heap.size _ _ hr ?_ ?_ ?_); exact rfl; exact rfl) | ((with_reducible refine ld_rde w.heap.size _ _ hr ?_ ?_ ?_); exact rfl; exact rfl) | ((with_reducible refine ld_Rw (w.heap.size + 1) rp 8192 2 hm ?_ ?_ ?_); exact rfl; exact rfl) | (go_at_call 32; (with_reducible refine (HL0.out _ _ hb ?_).mono ?_); (first | omega | (simp; omega)); rintro e W ⟨rfl, hbc⟩; replace hr := hr.bl hbc; replace hm := hm.bl hbc; replace hL := own_bel hL hbc; replace hb := hb.trans (hbc.mono hb.size); replace hS := Nat.le_trans hS hbc.size; clear hbc) | (go_at_call 32; (with_reducible refine (HL1.out _ _ hb ?_).mono ?_); (first | omega | (simp; omega)); rintro e W ⟨rfl, hbc⟩; replace hr := hr.bl hbc; replace hm := hm.bl hbc; replace hL := own_bel hL hbc; replace hb := hb.trans (hbc.mono hb.size); replace hS := Nat.le_trans hS hbc.size; clear hbc) | (go_at_call 32; (with_reducible refine (HL2.out _ _ hb ?_).mono ?_); (first | omega | (simp; omega)); rintro e W ⟨rfl, hbc⟩; replace hr := hr.bl hbc; replace hm := hm.bl hbc; replace hL := own_bel hL hbc; replace hb := hb.trans (hbc.mono hb.size); replace hS := Nat.le_trans hS hbc.size; clear hbc) | (go_at_call 32; (with_reducible refine (HL3.out _ _ hb ?_).mono ?_); (first | omega | (simp; omega)); rintro e W ⟨rfl, hbc⟩; replace hr := hr.bl hbc; replace hm := hm.bl hbc; replace hL := own_bel hL hbc; replace hb := hb.trans (hbc.mono hb.size); replace hS := Nat.le_trans hS hbc.size; clear hbc) | (go_at_call 32; (with_reducible refine (HL4.out _ _ hb ?_).mono ?_); (first | omega | (simp; omega)); rintro e W ⟨rfl, hbc⟩; replace hr := hr.bl hbc; replace hm := hm.bl hbc; replace hL := own_bel hL hbc; replace hb := hb.trans (hbc.mono hb.size); replace hS := Nat.le_trans hS hbc.size; clear hbc) | (go_at_call 39; (with_reducible refine (HTH.out _).mono ?_); rintro e W ⟨rfl, hbc⟩; replace hr := hr.bl hbc; replace hm := hm.bl hbc; replace hL := own_bel hL hbc; replace hb := hb.trans (hbc.mono hb.size); replace hS := Nat.le_trans hS hbc.size; clear hbc; obtain ⟨N1, hN10⟩ : ∃ y, W.heap.size = y := ⟨_, rfl⟩; have hN1 := hide hN10; have lN1 : w.heap.size + 1 + 1 ≤ N1 := hN10 ▸ hS; have hlv : ∀ y, (Value.slice av na cap).ownBlock = some y → w.heap.size + 1 + 1 ≤ y ∧ y < N1 := (fun y hy => hN10 ▸ hL.lt y hy); clear hN10))
          go_ret2
          refine ⟨hb, .inl ⟨?_, rfl⟩⟩
          rw [HFO.out, HFS.out]
          rfl
        · have t0 : decide (n < 0) = false := by simpa using hneg
          have t1 : decide (r.sz ≤ n) = true := by simp; omega
          clear hin
          clear hsz
          go_wp2_with (first | ((with_reducible refine ld_rsz w.heap.size _ _ hr ?_ ?_ ?_); exact rfl; exact rfl) | ((with_reducible refine ld_rde w.heap.size _ _ hr ?_ ?_ ?_); exact rfl; exact rfl) | ((with_reducible refine ld_Rw (w.heap.size + 1) rp 8192 2 hm ?_ ?_ ?_); exact rfl; exact rfl) | (go_at_call 32; (with_reducible refine (HL0.out _ _ hb ?_).mono ?_); (first | omega | (simp; omega)); rintro e W ⟨rfl, hbc⟩; replace hr := hr.bl hbc; replace hm := hm.bl hbc; replace hL := own_bel hL hbc; replace hb := hb.trans (hbc.mono hb.size); replace hS := Nat.le_trans hS hbc.size; clear hbc) | (go_at_call 32; (with_reducible refine (HL1.out _ _ hb ?_).mono ?_); (first | omega | (simp; omega)); rintro e W ⟨rfl, hbc⟩; replace hr := hr.bl hbc; replace hm := hm.bl hbc; replace hL := own_bel hL hbc; replace hb := hb.trans (hbc.mono hb.size); replace hS := Nat.le_trans hS hbc.size; clear hbc) | (go_at_call 32; (with_reducible refine (HL2.out _ _ hb ?_).mono ?_); (first | omega | (simp; omega)); rintro e W ⟨rfl, hbc⟩; replace hr := hr.bl hbc; replace hm := hm.bl hbc; replace hL := own_bel hL hbc; replace hb := hb.trans (hbc.mono hb.size); replace hS := Nat.le_trans hS hbc.size; clear hbc) | (go_at_call 32; (with_reducible refine (HL3.out _ _ hb ?_).mono ?_); (first | omega | (simp; omega)); rintro e W ⟨rfl, hbc⟩; replace hr := hr.bl hbc; replace hm := hm.bl hbc; replace hL := own_bel hL hbc; replace hb := hb.trans (hbc.mono hb.size); replace hS := Nat.le_trans hS hbc.size; clear hbc) | (go_at_call 32; (with_reducible refine (HL4.out _ _ hb ?_).mono ?_); (first | omega | (simp; omega)); rintro e W ⟨rfl, hbc⟩; replace hr := hr.bl hbc; replace hm := hm.bl hbc; replace hL := own_bel hL hbc; replace hb := hb.trans (hbc.mono hb.size); replace hS := Nat.le_trans hS hbc.size; clear hbc) | (go_at_call 39; (with_reducible refine (HTH.out _).mono ?_); rintro e W ⟨rfl, hbc⟩; replace hr := hr.bl hbc; replace hm := hm.bl hbc; replace hL := own_bel hL hbc; replace hb := hb.trans (hbc.mono hb.size); replace hS := Nat.le_trans hS hbc.size; clear hbc; obtain ⟨N1, hN10⟩ : ∃ y, W.heap.size = y := ⟨_, rfl⟩; have hN1 := hide hN10; have lN1 : w.heap.size + 1 + 1 ≤ N1 := hN10 ▸ hS; have hlv : ∀ y, (Value.slice av na cap).ownBlock = some y → w.heap.size + 1 + 1 ≤ y ∧ y < N1 := (fun y hy => hN10 ▸ hL.lt y hy); clear hN10))
          go_ret2
          refine ⟨hb, .inl ⟨?_, rfl⟩⟩
          rw [HFO.out, HFS.out]
          rfl
    · have hno : rwalk 2 f r (k - na) sum wro n = none := by rw [show k - na = 0 by omega]; rfl
      have HFS := hide hno
      have lt0 : decide ((na : Int) < r.sz) = false := by simp; omega
      clear hno
      clear hsz
      go_wp2_with (first | ((with_reducible refine ld_rsz w.heap.size _ _ hr ?_ ?_ ?_); exact rfl; exact rfl) | ((with_reducible refine ld_rde w.heap.size _ _ hr ?_ ?_ ?_); exact rfl; exact rfl) | ((with_reducible refine ld_Rw (w.heap.size + 1) rp 8192 2 hm ?_ ?_ ?_); exact rfl; exact rfl) | (go_at_call 32; (with_reducible refine (HL0.out _ _ hb ?_).mono ?_); (first | omega | (simp; omega)); rintro e W ⟨rfl, hbc⟩; replace hr := hr.bl hbc; replace hm := hm.bl hbc; replace hL := own_bel hL hbc; replace hb := hb.trans (hbc.mono hb.size); replace hS := Nat.le_trans hS hbc.size; clear hbc) | (go_at_call 32; (with_reducible refine (HL1.out _ _ hb ?_).mono ?_); (first | omega | (simp; omega)); rintro e W ⟨rfl, hbc⟩; replace hr := hr.bl hbc; replace hm := hm.bl hbc; replace hL := own_bel hL hbc; replace hb := hb.trans (hbc.mono hb.size); replace hS := Nat.le_trans hS hbc.size; clear hbc) | (go_at_call 32; (with_reducible refine (HL2.out _ _ hb ?_).mono ?_); (first | omega | (simp; omega)); rintro e W ⟨rfl, hbc⟩; replace hr := hr.bl hbc; replace hm := hm.bl hbc; replace hL := own_bel hL hbc; replace hb := hb.trans (hbc.mono hb.size); replace hS := Nat.le_trans hS hbc.size; clear hbc) | (go_at_call 32; (with_reducible refine (HL3.out _ _ hb ?_).mono ?_); (first | omega | (simp; omega)); rintro e W ⟨rfl, hbc⟩; replace hr := hr.bl hbc; replace hm := hm.bl hbc; replace hL := own_bel hL hbc; replace hb := hb.trans (hbc.mono hb.size); replace hS := Nat.le_trans hS hbc.size; clear hbc) | (go_at_call 32; (with_reducible refine (HL4.out _ _ hb ?_).mono ?_); (first | omega | (simp; omega)); rintro e W ⟨rfl, hbc⟩; replace hr := hr.bl hbc; replace hm := hm.bl hbc; replace hL := own_bel hL hbc; replace hb := hb.trans (hbc.mono hb.size); replace hS := Nat.le_trans hS hbc.size; clear hbc) | (go_at_call 39; (with_reducible refine (HTH.out _).mono ?_); rintro e W ⟨rfl, hbc⟩; replace hr := hr.bl hbc; replace hm := hm.bl hbc; replace hL := own_bel hL hbc; replace hb := hb.trans (hbc.mono hb.size); replace hS := Nat.le_trans hS hbc.size; clear hbc; obtain ⟨N1, hN10⟩ : ∃ y, W.heap.size = y := ⟨_, rfl⟩; have hN1 := hide hN10; have lN1 : w.heap.size + 1 + 1 ≤ N1 := hN10 ▸ hS; have hlv : ∀ y, (Value.slice av na cap).ownBlock = some y → w.heap.size + 1 + 1 ≤ y ∧ y < N1 := (fun y hy => hN10 ▸ hL.lt y hy); clear hN10))
      go_ret2
      refine ⟨hb, .inl ⟨?_, rfl⟩⟩
      rw [HFO.out, HFS.out]
      rfl
end Go.Proofs.YtghpjibjhaomoaaGreatDoor
