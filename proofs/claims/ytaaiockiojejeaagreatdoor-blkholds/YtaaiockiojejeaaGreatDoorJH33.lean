/-
  What blk's enter does with a read.
-/
import Derived.Test.YtaaiockiojejeaaGreatDoorJH11
import Derived.Test.YtaaiockiojejeaaGreatDoorJH30
import Derived.Deep.CutRange
namespace Go.Proofs.YtaaiockiojejeaaGreatDoor
open Go.RowKit
set_option linter.unusedVariables false
set_option linter.unusedSimpArgs false

set_option maxRecDepth 20000 in
set_option maxHeartbeats 8000000 in
theorem enter_r (s : Bk) (ok : s.Ok) (l : List (Rq × Value)) (hsl : l.map (·.1) = s.l) (v : Value) (ch : Ch) (cv : Value) {Bl Bi : Nat} {w : World} {B b p c : Nat} {f : Nat → Nat} {O : Nat → Prop} (h : RamB w B b p f c O) (hA : AreasAt w) (hG : 2 < B) (hI : InAt w Bi O v l) (hBi : Bi ≤ w.heap.size) (hBB : B ≤ Bi) (hL : w.ownsRow Bl 103 3 cv ch.ps.length (segL ch.ps)) (hLn : ∀ g, cv.ownBlock = some g → ¬ O g) (hP : PartsOk p ch.ps) (hrd : ch.rd = roomV false 0 ch.ps) (hwt : ch.wr = roomV true 0 ch.ps) (hl8 : l.length ≤ 100) (hkd : ch.kd ≠ 1) : Calls Tryz.prog 78 #[.agg (s.c v), .pointer (some ⟨b, 0, none⟩), .agg (ch.c cv)] w fun e w' => ∃ v' av, e = .returned (.tuple #[.agg ((entV f s ch).1.c v'), av]) ∧ ∃ l' O' dv, l'.map (·.1) = (entV f s ch).1.l ∧ RamB w' B b p f c O' ∧ Went B (Or1 O v) (Or1 O' v') w w' ∧ InAt w' Bi O' v' l' ∧ (∀ g, v'.ownBlock = some g → v.ownBlock = some g ∨ w.heap.size ≤ g) ∧ AsksAt w' w.heap.size O' av [((entV f s ch).2, dv)] := by
  obtain ⟨rr0, rr1⟩ := roomV_in false ch.ps 0 (by decide) (by decide)
  obtain ⟨rw0, rw1⟩ := roomV_in true ch.ps 0 (by decide) (by decide)
  have HD := hide (fun w => databytes_any ch cv (by rw [hrd]; exact rr0) (by rw [hrd]; exact rr1) (by rw [hwt]; exact rw0) (by rw [hwt]; exact rw1) w)
  have HWr : Hid (∀ W, W.ownsRow Bl 103 3 cv ch.ps.length (segL ch.ps) → Calls Tryz.prog 118 #[cv] W fun e w' => ∃ v', e = .returned v' ∧ w'.ownsRow W.heap.size 103 3 v' (wriL ch.ps).length (segL (wriL ch.ps)) ∧ Below W.heap.size W w') := hide (fun W hL => written_any ch.ps (by have := hP.len; omega) hP.pos hL)
  obtain ⟨q, hq0⟩ : ∃ x, reqV s ch = x := ⟨_, rfl⟩
  have hqw : q.wr = false := by rw [← hq0]; simp [reqV, hkd]
  have HQ : Hid (∀ u, #[.int .u32 (s.nx : Nat), .int .i64 ch.hd, .bool false, .int .u32 ((ch.se % 4294967296 : Nat) : Int), .int .i64 ch.dat, u] = q.c u) := hide (fun u => by rw [← hq0]; simp [reqV, Rq.c, hkd])
  have hqid : q.id = s.nx := by rw [← hq0]; rfl
  have hqse : q.se = ch.se % 4294967296 := by rw [← hq0]; rfl
  have hqn : q.n = ch.dat := by rw [← hq0]; rfl
  have hql : q.l = wriL ch.ps := by rw [← hq0]; rfl
  have hlen : l.length = s.l.length := by rw [← hsl, List.length_map]
  have hnx := ok.nx
  obtain ⟨k, hk1, hk2, hk3⟩ := free_at (s.l ++ [q]) s.nx (by rw [List.length_append]; simp; omega)
  have hnv : nxtV (s.l ++ [q]) (s.l.length + 2) s.nx = (s.nx + k) % 4294967296 := nxtV_at (s.l ++ [q]) k (s.l.length + 1) s.nx hnx (by rw [List.length_append] at hk1; simpa using hk1) hk2 hk3
  have hk8 : k ≤ 1000 := by rw [List.length_append] at hk1; simp at hk1; omega
  have e1 : (entV f s ch).1 = { s with l := s.l ++ [q], nx := (s.nx + k) % 4294967296 } := by unfold entV; rw [hq0, hnv]
  obtain ⟨k0, hk0⟩ : ∃ x : Ak, (⟨q.id, false, q.se, q.n, []⟩ : Ak) = x := ⟨_, rfl⟩
  have HK0 : Hid (#[.int .u32 (q.id : Nat), .bool false, .int .u32 (q.se : Nat), .int .i64 q.n, .slice none 0 0] = k0.c nilS) := hide (by rw [← hk0]; rfl)
  have e2 : (entV f s ch).2 = { k0 with da := [] } := by unfold entV; rw [← hk0, hqid, hqse, hqn]; simp [hkd]
  rw [e1, e2]
  have HKL : Hid (∀ u, k0.c u = ({ k0 with da := [] } : Ak).c u) := hide (fun u => rfl)
  have HFn : Hid (∀ W v' wv j, W.ownsRow Bi 102 6 v' (l.length + 1) (reqL (l ++ [(q, wv)])) → Calls Tryz.prog 47 #[v', .int .u32 ((s.nx + j) % 4294967296 : Nat)] W fun e w' => e = .returned (.int .i64 (idxQ (s.l ++ [q]) ((s.nx + j) % 4294967296))) ∧ Below W.heap.size W w') := hide (fun W v' wv j hr => by
    have := bfind_any (l ++ [(q, wv)]) (by rw [List.length_append]; simp; omega) ((s.nx + j) % 4294967296) (by rw [List.length_append]; exact hr)
    rwa [List.map_append, hsl] at this)
  have HKK := hide (And.intro hk2 hk3)
  have HSL := hide hsl
  have hvo := own_one hI.row
  have hIv : ∀ g, v.ownBlock = some g → g < w.heap.size := fun g e => (hI.row.lt g e).2
  have hIs : ∀ x ∈ l, ∀ g, x.2.ownBlock = some g → g < w.heap.size := fun x hx g e => ((hI.own x hx).lt g e).2
  have hLv : ∀ g, cv.ownBlock = some g → g < w.heap.size := fun g e => (hL.lt g e).2
  have t1 : ((ch.kd : Int) == 1) = false := by first | (simp; done) | (simp; omega)
  have t2 := u32_mod ch.se
  obtain ⟨cva, cvc, rfl, _, _⟩ := own_form hL
  obtain ⟨va, vc, rfl, hvc1, hvc2⟩ := own_form hI.row
  generalize ch.dat = dt at *
  have HQL := hide hql
  clear hq0 hk2 hk3 hsl hnv e1 e2 hk0 rr0 rr1 rw0 rw1 hrd hwt hkd hqid hqse hqn hql hlen
  have hB0 := h.base
  have hGw : 2 < w.heap.size := Nat.lt_of_lt_of_le hG hB0
  have hA0 := hA
  have hI0 := hide hI
  clear hA
  go_enter Tryz.func78, Tryz.ntmps78
  go_upto_region 1 with (first | ((with_reducible refine bx_bk w.heap.size s (.slice va l.length vc) ?_ ?_ ?_); exact rfl; exact rfl; intro W hr hb hz) | ((with_reducible refine bx_ch (w.heap.size + 1) ch (.slice cva ch.ps.length cvc) ?_ ?_ ?_); exact hz.out; exact rfl; intro W hk hb' hz'; replace hr := hr.bl (hz.out ▸ hb'); replace hb := hb.trans (hb'.mono (by omega)); replace hz := hz') | ((with_reducible refine al_bk (w.heap.size + 2) ?_ ?_); exact hz.out; intro W hq hb' hz'; replace hr := hr.bl (hz.out ▸ hb'); replace hk := hk.bl (hz.out ▸ hb'); replace hb := hb.trans (hb'.mono (by omega)); replace hz := hz'; have hM := h.bl hb; have hW := Went.of (O := O) hb hB0; have hA := hA0.bl hb; have hF := h.far 3; have hS : w.heap.size + 3 ≤ W.heap.size := Nat.le_of_eq hz.out.symm; have hB : B ≤ W.heap.size := Nat.le_trans hB0 hb.size; replace hL := own_bel hL hb; replace hI := hI.bl hb; clear hb hz hb' hz'))
  go_cut [8] from 12 to 27 (fun s8 wx => ∃ (NR : Nat) (wa : Option Addr) (wq : Nat), s8 = .pointer (some ⟨NR, 0, none⟩) ∧ RowAt wx w.heap.size (s.c (.slice va l.length vc)) 53 ∧ RowAt wx (w.heap.size + 1) (ch.c (.slice cva ch.ps.length cvc)) 110 ∧ RowAt wx (w.heap.size + 2) (zeroBk.c nilS) 53 ∧ RowAt wx NR (q.c (.slice wa (wriL ch.ps).length wq)) 102 ∧ wx.ownsRow (w.heap.size + 3) 103 3 (.slice wa (wriL ch.ps).length wq) (wriL ch.ps).length (segL (wriL ch.ps)) ∧ (∀ g, (Value.slice wa (wriL ch.ps).length wq).ownBlock = some g → ¬ O g) ∧ RamB wx B b p f c O ∧ Went B O O w wx ∧ AreasAt wx ∧ InAt wx Bi O (.slice va l.length vc) l ∧ wx.ownsRow Bl 103 3 (.slice cva ch.ps.length cvc) ch.ps.length (segL ch.ps) ∧ w.heap.size + 3 ≤ NR ∧ ¬ O NR ∧ w.heap.size + 3 ≤ wx.heap.size ∧ B ≤ wx.heap.size)
  case first =>
    refine wp_region_held_drew (S := (fun V => RowAt V w.heap.size (s.c (.slice va l.length vc)) 53 ∧ RowAt V (w.heap.size + 1) (ch.c (.slice cva ch.ps.length cvc)) 110)) (by kernel_rfl) ?_ (fun hHeld => ?_)
    · exact ⟨hr.dr, hk.dr⟩
    replace hM := hM.dr
    replace hW := hW.dr
    replace hA := hA.drR
    replace hS : w.heap.size + 3 ≤ (World.drew _).heap.size := hS
    replace hB : B ≤ (World.drew _).heap.size := hB
    replace hq := hq.dr
    replace hL := own_dr hL
    replace hI := hI.bl ((Below.refl _ _).drew)
    generalize World.drew _ = V at hHeld hM hW hA hS hB hq hL hI ⊢
    clear hr hk
    refine tkO 0 (.pointer (some ⟨w.heap.size, 23, none⟩)) (by simp only [gT, gZ]; rfl) (puO (by (intro w hSw; (try dsimp only at hSw); go_simp))) ?_
    simp only [Act.put, pA, pZ, pS]
    refine tkO 2 (.pointer (some ⟨w.heap.size + 1, 0, none⟩)) (by simp only [gT, gZ, gS]; rfl) (puO (by (intro w hSw; (try dsimp only at hSw); go_simp))) ?_
    simp only [Act.put, pA, pZ, pS]
    refine tkO 4 (.pointer (some ⟨w.heap.size + 1, 1, none⟩)) (by simp only [gT, gZ, gS]; rfl) (puO (by (intro w hSw; (try dsimp only at hSw); go_simp))) ?_
    simp only [Act.put, pA, pZ, pS]
    refine tkO 7 (.pointer (some ⟨w.heap.size + 1, 2, none⟩)) (by simp only [gT, gZ, gS]; rfl) (puO (by (intro w hSw; (try dsimp only at hSw); go_simp))) ?_
    simp only [Act.put, pA, pZ, pS]
    refine tkO 10 (.agg (ch.c (.slice cva ch.ps.length cvc))) (by simp only [gT, gZ, gS]; rfl) (y_ch (w.heap.size + 1) ch _ (fun V hV => hV.2) rfl rfl) ?_
    simp only [Act.put, pA, pZ, pS]
    refine tkO 12 (.pointer (some ⟨w.heap.size + 1, 3, none⟩)) (by simp only [gT, gZ, gS]; rfl) (puO (by (intro w hSw; (try dsimp only at hSw); go_simp))) ?_
    simp only [Act.put, pA, pZ, pS]
    refine tkO 1 (.int .u32 (s.nx : Nat)) (by simp only [gT, gZ, gS]; rfl) (y_bnx w.heap.size s _ _ (fun V hV => hV.1) rfl) ?_
    simp only [Act.put, pA, pZ, pS]
    refine tkO 3 (.int .i64 ch.hd) (by simp only [gT, gZ, gS]; rfl) (y_chd (w.heap.size + 1) ch _ _ (fun V hV => hV.2) rfl) ?_
    simp only [Act.put, pA, pZ, pS]
    refine tkO 5 (.int .u64 (ch.kd : Nat)) (by simp only [gT, gZ, gS]; rfl) (y_ckd (w.heap.size + 1) ch _ _ (fun V hV => hV.2) rfl) ?_
    simp only [Act.put, pA, pZ, pS]
    refine tkO 8 (.int .u64 (ch.se : Nat)) (by simp only [gT, gZ, gS]; rfl) (y_cse (w.heap.size + 1) ch _ _ (fun V hV => hV.2) rfl) ?_
    simp only [Act.put, pA, pZ, pS]
    refine tkO 13 (.slice cva ch.ps.length cvc) (by simp only [gT, gZ, gS]; rfl) (y_cps (w.heap.size + 1) ch _ _ (fun V hV => hV.2) rfl) ?_
    simp only [Act.put, pA, pZ, pS]
    refine tkO 6 (.bool false) (by simp only [gT, gZ, gS]; rfl) (puO (by (intro w hSw; (try dsimp only at hSw); go_simp))) ?_
    simp only [Act.put, pA, pZ, pS]
    refine tkO 9 (.int .u32 ((ch.se % 4294967296 : Nat) : Int)) (by simp only [gT, gZ, gS]; rfl) (puO (by (intro w hSw; (try dsimp only at hSw); go_simp))) ?_
    simp only [Act.put, pA, pZ, pS]
    refine wpAnyH_ready (rs := [11, 16]) (by kernel_rfl) (by simp) ?_
    refine AllReadyH.cons (o := ?oi84) ?hi84 (fun K hK => ?b84) (AllReadyH.cons (o := ?oi85) ?hi85 (fun K hK => ?b85) (AllReadyH.nil))
    case hi84 => (simp only [List.getElem?_toArray, List.getElem?_cons_zero, List.getElem?_cons_succ]; rfl)
    case hi85 => (simp only [List.getElem?_toArray, List.getElem?_cons_zero, List.getElem?_cons_succ]; rfl)
    case b84 =>
      rw [if_pos (by rfl)]
      go_simp
      (with_reducible refine (HD.out _).mono ?_)
      rintro e V2 ⟨rfl, hbc⟩
      have hH2 := hide (And.intro (hHeld.1.bl hbc) (hHeld.2.bl hbc))
      replace hM := hM.bl hbc
      replace hW := hW.bl hbc hB
      replace hA := hA.bl hbc
      replace hq := hq.bl hbc
      replace hL := own_bel hL hbc
      replace hI := hI.bl hbc
      (try replace hn := hn.bl hbc)
      replace hB := Nat.le_trans hB hbc.size
      replace hS := Nat.le_trans hS hbc.size
      clear hHeld hbc
      go_simp
      refine hK.out _ _ ?_ (fun hHeld => ?_)
      · exact hH2.out
      clear hK K
      clear hH2
      refine wpAnyH_ready (rs := [14, 16]) (by kernel_rfl) (by simp) ?_
      refine AllReadyH.cons (o := ?oi86) ?hi86 (fun K hK => ?b86) (AllReadyH.cons (o := ?oi87) ?hi87 (fun K hK => ?b87) (AllReadyH.nil))
      case hi86 => (simp only [List.getElem?_toArray, List.getElem?_cons_zero, List.getElem?_cons_succ]; rfl)
      case hi87 => (simp only [List.getElem?_toArray, List.getElem?_cons_zero, List.getElem?_cons_succ]; rfl)
      case b86 =>
        rw [if_pos (by rfl)]
        go_simp
        (with_reducible refine (HWr.out _ hL).mono ?_)
        rintro e V3 ⟨wv, rfl, hwv, hbc⟩
        obtain ⟨wa, wc, rfl, _, _⟩ := own_form hwv
        have hwn : ∀ g, (Value.slice wa (wriL ch.ps).length wc).ownBlock = some g → ¬ O g := fun g e k => absurd (hM.lt g k) (by have := (hwv.lt g e).1; omega)
        have hH2 := hide (And.intro (hHeld.1.bl hbc) (hHeld.2.bl hbc))
        replace hM := hM.bl hbc
        replace hW := hW.bl hbc hB
        replace hA := hA.bl hbc
        replace hq := hq.bl hbc
        replace hL := own_bel hL hbc
        replace hI := hI.bl hbc
        (try replace hn := hn.bl hbc)
        replace hwv := own_lower2 hwv hS
        replace hB := Nat.le_trans hB hbc.size
        replace hS := Nat.le_trans hS hbc.size
        clear hHeld hbc
        go_simp
        refine hK.out _ _ ?_ (fun hHeld => ?_)
        · exact hH2.out
        clear hK K
        clear hH2
        refine tkO 15 (.agg #[.int .u32 (s.nx : Nat), .int .i64 ch.hd, .bool false, .int .u32 ((ch.se % 4294967296 : Nat) : Int), .int .i64 dt, .slice wa (wriL ch.ps).length wc]) (by simp only [gT, gZ, gS]; rfl) (puO (by (intro w hSw; (try dsimp only at hSw); go_simp))) ?_
        simp only [Act.put, pA, pZ, pS]
        refine skO 16 (by simp only [gT, gZ, gS]; rfl) (fun K hK => ?_)
        obtain ⟨NR, hNR0⟩ : ∃ n, V3.heap.size = n := ⟨_, rfl⟩
        have hn0 : w.heap.size + 3 ≤ NR := hNR0 ▸ hS
        have hnO : ¬ O NR := fun e => absurd (hM.lt NR e) (by omega)
        rw [if_pos (by rfl)]
        (with_reducible refine s_alc NR hNR0 (zeroRq.c nilS) zero_rq ?_)
        intro V4 hn hb' hz4
        have hbc := hNR0 ▸ hb'
        have hH2 := hide (And.intro (hHeld.1.bl hbc) (hHeld.2.bl hbc))
        replace hM := hM.bl hbc
        replace hW := hW.bl hbc hB
        replace hA := hA.bl hbc
        replace hq := hq.bl hbc
        replace hL := own_bel hL hbc
        replace hI := hI.bl hbc
        (try replace hwv := own_bel hwv hbc)
        replace hB := Nat.le_trans hB hbc.size
        replace hS := Nat.le_trans hS hbc.size
        clear hHeld hbc hb' hz4 hNR0
        refine hK.out _ _ ?_ (fun hHeld => ?_)
        · exact hH2.out
        clear hK K
        clear hH2
        refine skO 17 (by simp only [gT, gZ, gS]; rfl) (fun K hK => ?_)
        rw [if_pos (by rfl)]
        (with_reducible refine s_rq NR _ _ q (.slice wa (wriL ch.ps).length wc) rfl hn ?_ ?_ ?_)
        · exact rfl
        · exact congrArg Value.agg (HQ.out _)
        intro V5 hnew ho
        have hH2 := hide (And.intro (hHeld.1.only ho (by omega)) (hHeld.2.only ho (by omega)))
        replace hq := hq.only ho (by omega)
        replace hL := own_only hL ho (fun e => absurd (hLv _ e) (by omega))
        replace hwv := own_only hwv ho (fun e => absurd (own_ty hwv e hn) (by decide))
        replace hI := hI.only ho (fun e => absurd (hIv _ e) (by omega)) (fun x hx e => absurd (hIs x hx _ e) (by omega))
        replace hM := hM.only ho hnO
        replace hA := hA.onlyR ho (by omega)
        replace hW := hW.only ho (by omega) (by omega)
        replace hS := (show w.heap.size + 3 ≤ V5.heap.size by rw [ho.size]; exact hS)
        replace hB := (show B ≤ V5.heap.size by rw [ho.size]; exact hB)
        replace hn := hnew
        clear hHeld ho hnew
        refine hK.out _ _ ?_ (fun hHeld => ?_)
        · exact hH2.out
        clear hK K
        clear hH2
        refine wpAnyH_done (by kernel_rfl) ?_ _
        obtain ⟨hr, hk⟩ := hHeld
        go_wp2_with (fail)
        go_meet
        case rel => exact ⟨NR, wa, wc, rfl, hr, hk, hq, hn, hwv, hwn, hM, hW, hA, hI, hL, hn0, hnO, hS, hB⟩
      case b87 =>
        obtain ⟨NR, hNR0⟩ : ∃ n, V2.heap.size = n := ⟨_, rfl⟩
        have hn0 : w.heap.size + 3 ≤ NR := hNR0 ▸ hS
        have hnO : ¬ O NR := fun e => absurd (hM.lt NR e) (by omega)
        rw [if_pos (by rfl)]
        (with_reducible refine s_alc NR hNR0 (zeroRq.c nilS) zero_rq ?_)
        intro V4 hn hb' hz4
        have hbc := hNR0 ▸ hb'
        have hH2 := hide (And.intro (hHeld.1.bl hbc) (hHeld.2.bl hbc))
        replace hM := hM.bl hbc
        replace hW := hW.bl hbc hB
        replace hA := hA.bl hbc
        replace hq := hq.bl hbc
        replace hL := own_bel hL hbc
        replace hI := hI.bl hbc
        (try replace hwv := own_bel hwv hbc)
        replace hB := Nat.le_trans hB hbc.size
        replace hS := Nat.le_trans hS hbc.size
        clear hHeld hbc hb' hz4 hNR0
        refine hK.out _ _ ?_ (fun hHeld => ?_)
        · exact hH2.out
        clear hK K
        clear hH2
        refine skO 14 (by simp only [gT, gZ, gS]; rfl) (fun K hK => ?_)
        rw [if_pos (by rfl)]
        go_simp
        (with_reducible refine (HWr.out _ hL).mono ?_)
        rintro e V3 ⟨wv, rfl, hwv, hbc⟩
        obtain ⟨wa, wc, rfl, _, _⟩ := own_form hwv
        have hwn : ∀ g, (Value.slice wa (wriL ch.ps).length wc).ownBlock = some g → ¬ O g := fun g e k => absurd (hM.lt g k) (by have := (hwv.lt g e).1; omega)
        have hH2 := hide (And.intro (hHeld.1.bl hbc) (hHeld.2.bl hbc))
        replace hM := hM.bl hbc
        replace hW := hW.bl hbc hB
        replace hA := hA.bl hbc
        replace hq := hq.bl hbc
        replace hL := own_bel hL hbc
        replace hI := hI.bl hbc
        (try replace hn := hn.bl hbc)
        replace hwv := own_lower2 hwv hS
        replace hB := Nat.le_trans hB hbc.size
        replace hS := Nat.le_trans hS hbc.size
        clear hHeld hbc
        go_simp
        refine hK.out _ _ ?_ (fun hHeld => ?_)
        · exact hH2.out
        clear hK K
        clear hH2
        refine tkO 15 (.agg #[.int .u32 (s.nx : Nat), .int .i64 ch.hd, .bool false, .int .u32 ((ch.se % 4294967296 : Nat) : Int), .int .i64 dt, .slice wa (wriL ch.ps).length wc]) (by simp only [gT, gZ, gS]; rfl) (puO (by (intro w hSw; (try dsimp only at hSw); go_simp))) ?_
        simp only [Act.put, pA, pZ, pS]
        refine skO 17 (by simp only [gT, gZ, gS]; rfl) (fun K hK => ?_)
        rw [if_pos (by rfl)]
        (with_reducible refine s_rq NR _ _ q (.slice wa (wriL ch.ps).length wc) rfl hn ?_ ?_ ?_)
        · exact rfl
        · exact congrArg Value.agg (HQ.out _)
        intro V5 hnew ho
        have hH2 := hide (And.intro (hHeld.1.only ho (by omega)) (hHeld.2.only ho (by omega)))
        replace hq := hq.only ho (by omega)
        replace hL := own_only hL ho (fun e => absurd (hLv _ e) (by omega))
        replace hwv := own_only hwv ho (fun e => absurd (own_ty hwv e hn) (by decide))
        replace hI := hI.only ho (fun e => absurd (hIv _ e) (by omega)) (fun x hx e => absurd (hIs x hx _ e) (by omega))
        replace hM := hM.only ho hnO
        replace hA := hA.onlyR ho (by omega)
        replace hW := hW.only ho (by omega) (by omega)
        replace hS := (show w.heap.size + 3 ≤ V5.heap.size by rw [ho.size]; exact hS)
        replace hB := (show B ≤ V5.heap.size by rw [ho.size]; exact hB)
        replace hn := hnew
        clear hHeld ho hnew
        refine hK.out _ _ ?_ (fun hHeld => ?_)
        · exact hH2.out
        clear hK K
        clear hH2
        refine wpAnyH_done (by kernel_rfl) ?_ _
        obtain ⟨hr, hk⟩ := hHeld
        go_wp2_with (fail)
        go_meet
        case rel => exact ⟨NR, wa, wc, rfl, hr, hk, hq, hn, hwv, hwn, hM, hW, hA, hI, hL, hn0, hnO, hS, hB⟩
    case b85 =>
      obtain ⟨NR, hNR0⟩ : ∃ n, V.heap.size = n := ⟨_, rfl⟩
      have hn0 : w.heap.size + 3 ≤ NR := hNR0 ▸ hS
      have hnO : ¬ O NR := fun e => absurd (hM.lt NR e) (by omega)
      rw [if_pos (by rfl)]
      (with_reducible refine s_alc NR hNR0 (zeroRq.c nilS) zero_rq ?_)
      intro V4 hn hb' hz4
      have hbc := hNR0 ▸ hb'
      have hH2 := hide (And.intro (hHeld.1.bl hbc) (hHeld.2.bl hbc))
      replace hM := hM.bl hbc
      replace hW := hW.bl hbc hB
      replace hA := hA.bl hbc
      replace hq := hq.bl hbc
      replace hL := own_bel hL hbc
      replace hI := hI.bl hbc
      (try replace hwv := own_bel hwv hbc)
      replace hB := Nat.le_trans hB hbc.size
      replace hS := Nat.le_trans hS hbc.size
      clear hHeld hbc hb' hz4 hNR0
      refine hK.out _ _ ?_ (fun hHeld => ?_)
      · exact hH2.out
      clear hK K
      clear hH2
      refine skO 11 (by simp only [gT, gZ, gS]; rfl) (fun K hK => ?_)
      rw [if_pos (by rfl)]
      go_simp
      (with_reducible refine (HD.out _).mono ?_)
      rintro e V2 ⟨rfl, hbc⟩
      have hH2 := hide (And.intro (hHeld.1.bl hbc) (hHeld.2.bl hbc))
      replace hM := hM.bl hbc
      replace hW := hW.bl hbc hB
      replace hA := hA.bl hbc
      replace hq := hq.bl hbc
      replace hL := own_bel hL hbc
      replace hI := hI.bl hbc
      (try replace hn := hn.bl hbc)
      replace hB := Nat.le_trans hB hbc.size
      replace hS := Nat.le_trans hS hbc.size
      clear hHeld hbc
      go_simp
      refine hK.out _ _ ?_ (fun hHeld => ?_)
      · exact hH2.out
      clear hK K
      clear hH2
      refine skO 14 (by simp only [gT, gZ, gS]; rfl) (fun K hK => ?_)
      rw [if_pos (by rfl)]
      go_simp
      (with_reducible refine (HWr.out _ hL).mono ?_)
      rintro e V3 ⟨wv, rfl, hwv, hbc⟩
      obtain ⟨wa, wc, rfl, _, _⟩ := own_form hwv
      have hwn : ∀ g, (Value.slice wa (wriL ch.ps).length wc).ownBlock = some g → ¬ O g := fun g e k => absurd (hM.lt g k) (by have := (hwv.lt g e).1; omega)
      have hH2 := hide (And.intro (hHeld.1.bl hbc) (hHeld.2.bl hbc))
      replace hM := hM.bl hbc
      replace hW := hW.bl hbc hB
      replace hA := hA.bl hbc
      replace hq := hq.bl hbc
      replace hL := own_bel hL hbc
      replace hI := hI.bl hbc
      (try replace hn := hn.bl hbc)
      replace hwv := own_lower2 hwv hS
      replace hB := Nat.le_trans hB hbc.size
      replace hS := Nat.le_trans hS hbc.size
      clear hHeld hbc
      go_simp
      refine hK.out _ _ ?_ (fun hHeld => ?_)
      · exact hH2.out
      clear hK K
      clear hH2
      refine tkO 15 (.agg #[.int .u32 (s.nx : Nat), .int .i64 ch.hd, .bool false, .int .u32 ((ch.se % 4294967296 : Nat) : Int), .int .i64 dt, .slice wa (wriL ch.ps).length wc]) (by simp only [gT, gZ, gS]; rfl) (puO (by (intro w hSw; (try dsimp only at hSw); go_simp))) ?_
      simp only [Act.put, pA, pZ, pS]
      refine skO 17 (by simp only [gT, gZ, gS]; rfl) (fun K hK => ?_)
      rw [if_pos (by rfl)]
      (with_reducible refine s_rq NR _ _ q (.slice wa (wriL ch.ps).length wc) rfl hn ?_ ?_ ?_)
      · exact rfl
      · exact congrArg Value.agg (HQ.out _)
      intro V5 hnew ho
      have hH2 := hide (And.intro (hHeld.1.only ho (by omega)) (hHeld.2.only ho (by omega)))
      replace hq := hq.only ho (by omega)
      replace hL := own_only hL ho (fun e => absurd (hLv _ e) (by omega))
      replace hwv := own_only hwv ho (fun e => absurd (own_ty hwv e hn) (by decide))
      replace hI := hI.only ho (fun e => absurd (hIv _ e) (by omega)) (fun x hx e => absurd (hIs x hx _ e) (by omega))
      replace hM := hM.only ho hnO
      replace hA := hA.onlyR ho (by omega)
      replace hW := hW.only ho (by omega) (by omega)
      replace hS := (show w.heap.size + 3 ≤ V5.heap.size by rw [ho.size]; exact hS)
      replace hB := (show B ≤ V5.heap.size by rw [ho.size]; exact hB)
      replace hn := hnew
      clear hHeld ho hnew
      refine hK.out _ _ ?_ (fun hHeld => ?_)
      · exact hH2.out
      clear hK K
      clear hH2
      refine wpAnyH_done (by kernel_rfl) ?_ _
      obtain ⟨hr, hk⟩ := hHeld
      go_wp2_with (fail)
      go_meet
      case rel => exact ⟨NR, wa, wc, rfl, hr, hk, hq, hn, hwv, hwn, hM, hW, hA, hI, hL, hn0, hnO, hS, hB⟩
  case rest =>
    obtain ⟨NR, wa, wq, rfl, hr, hk, hq, hn, hwv, hwn, hM, hW, hA, hI, hL, hn0, hnO, hS, hB⟩ := hcut
    obtain ⟨NA, hNA0⟩ : ∃ n, wc.heap.size = n := ⟨_, rfl⟩
    have hNA := hide hNA0
    have hna0 : NR < NA := hNA0 ▸ hn.lt
    clear hNA0
    go_wp2_with (first | ((with_reducible refine ld_qid NR q _ _ hn ?_ ?_ ?_); exact rfl; exact rfl) | ((with_reducible refine ld_qwr NR q _ _ hn ?_ ?_ ?_); exact rfl; exact rfl; rw [hqw]) | ((with_reducible refine ld_qse NR q _ _ hn ?_ ?_ ?_); exact rfl; exact rfl) | ((with_reducible refine ld_qn NR q _ _ hn ?_ ?_ ?_); exact rfl; exact rfl) | ((with_reducible refine al_ak NA ?_ ?_); exact hNA.out; intro W hna hb' hz'; have hbc := hNA.out ▸ hb'; have hnaO : ¬ O NA := (fun e => absurd (hM.lt NA e) (by have := hNA.out; omega)); have hNB := hz'; replace hM := hM.bl hbc; replace hW := hW.bl hbc hB; replace hA := hA.bl hbc; replace hB := Nat.le_trans hB hbc.size; replace hS := Nat.le_trans hS hbc.size; replace hr := hr.bl hbc; replace hk := hk.bl hbc; replace hq := hq.bl hbc; replace hL := own_bel hL hbc; replace hI := hI.bl hbc; replace hn := hn.bl hbc; replace hwv := own_bel hwv hbc; clear hb' hbc hz') | ((with_reducible refine st_ak NA _ _ k0 nilS rfl hna ?_ ?_ ?_); exact rfl; (exact congrArg Value.agg HK0.out); intro W hnew ho; replace hNB := hide (ho.size.trans hNB.out); replace hn := hn.only ho (by omega); replace hwv := own_only hwv ho (fun e => absurd (own_ty hwv e hna) (by decide)); replace hM := hM.only ho hnaO; replace hr := hr.only ho (by omega); replace hk := hk.only ho (by omega); replace hq := hq.only ho (by omega); (replace hI := hI.only ho (fun e => absurd (hIv _ e) (by omega)) (fun x hx e => absurd (hIs x hx _ e) (by omega))); (replace hL := own_only hL ho (fun e => absurd (hLv _ e) (by omega))); replace hA := hA.onlyR ho (by omega); replace hW := hW.only ho (by omega) (by omega); replace hS := (show w.heap.size + 3 ≤ W.heap.size by rw [ho.size]; exact hS); replace hB := (show B ≤ W.heap.size by rw [ho.size]; exact hB); replace hna := hnew; clear hnew ho) | ((with_reducible refine ld_bin w.heap.size s _ _ hr ?_ ?_ ?_); exact rfl; exact rfl) | ((with_reducible refine ld_rq NR q _ hn ?_ ?_ ?_); exact rfl; exact rfl) | ((with_reducible refine bs_r (NA + 1) ?_ q (.slice wa (wriL ch.ps).length wq) (bs_req _ _ _ _) ?_ ?_); exact hNB.out; exact rfl; intro W hbs hb' hz'; have hbc := hNB.out ▸ hb'; replace hNB := hz'; replace hM := hM.bl hbc; replace hW := hW.bl hbc hB; replace hA := hA.bl hbc; replace hB := Nat.le_trans hB hbc.size; replace hS := Nat.le_trans hS hbc.size; replace hr := hr.bl hbc; replace hk := hk.bl hbc; replace hq := hq.bl hbc; replace hL := own_bel hL hbc; replace hI := hI.bl hbc; replace hn := hn.bl hbc; replace hwv := own_bel hwv hbc; replace hna := hna.bl hbc; clear hb' hbc hz') | ((with_reducible refine app_r l (q, .slice wa (wriL ch.ps).length wq) rfl l.length rfl hI.row (NA + 1) hbs (by omega) (by omega) ?_ ?_ ?_); exact rfl; exact rfl; intro W4 v4 hv4 hg4 hbk4; (have hBi0 : ∀ g, (Value.slice va l.length vc).ownBlock = some g → Bi ≤ g := fun g e => (hI.row.lt g e).1); (have hI4 := hI.app hv4 hg4 hbk4 hM.lt (by rw [HQL.out]; exact own_lower2 hwv (by omega)) hwn); (have hW4 := went_app hW hg4 hbk4 hBi0 hBB hB0); (have hv4n : ∀ g, v4.ownBlock = some g → g < w.heap.size ∨ NA + 1 ≤ g := fun g e => by (rcases hbk4 with k | k; exact .inl (hIv g (k ▸ e)); rw [k] at e; cases e; exact .inr (by have := hNB.out; omega))); (have hv4v : ∀ g, v4.ownBlock = some g → (Value.slice va l.length vc).ownBlock = some g ∨ w.heap.size ≤ g := fun g e => by (rcases hbk4 with k | k; exact .inl (k ▸ e); exact .inr (by rw [k] at e; cases e; omega))); (obtain ⟨v4a, v4c, rfl, _, _⟩ := own_form hv4); (have hM4 := grow_ram hM hg4 hI.far); replace hr := grow_row hr hg4 (fun e => absurd (hIv _ e) (by omega)); replace hq := grow_row hq hg4 (fun e => absurd (hIv _ e) (by omega)); replace hna := grow_row hna hg4 (fun e => absurd (hIv _ e) (by omega)); (replace hA := hA.growR hg4 (fun g e => by have := hBi0 g e; omega)); (replace hS := Nat.le_trans hS hg4.size); (replace hB := Nat.le_trans hB hg4.size); clear hM hW hI hn hbs hwv hL hk) | ((with_reducible refine st_bin w.heap.size s _ (.slice v4a (l.length + 1) v4c) rfl _ hr ?_ ?_ ?_); exact rfl; exact rfl; intro W5 hnew ho; replace hq := hq.only ho (by omega); replace hna := hna.only ho (by omega); replace hM4 := hM4.only ho (hF.at 0 (by omega)); replace hA := hA.onlyR ho (by omega); (replace hW4 := went_onlyO hW4 ho (by omega) (by omega)); (replace hS := (show w.heap.size + 3 ≤ W5.heap.size by rw [ho.size]; exact hS)); (replace hB := (show B ≤ W5.heap.size by rw [ho.size]; exact hB)); (replace hv4 := own_only hv4 ho (fun e => by have := hv4n _ e; omega)); (replace hI4 := hI4.only ho (fun e => by have := hv4n _ e; omega) (fun x hx e => in_seg_ne hI4 hx e hr)); replace hr := hnew; clear hnew ho))
    have hs0 : ({ s with nx := (s.nx + 0) % 4294967296 } : Bk) = s := by rw [Nat.add_zero, Nat.mod_eq_of_lt hnx]
    (try simp only [Act.put, pA, pZ, pS])
    go_loopw [66] (fun sv wr => ∃ j, j ≤ k ∧ RowAt wr w.heap.size (({ s with nx := (s.nx + j) % 4294967296 } : Bk).c (.slice v4a (l.length + 1) v4c)) 53 ∧ RowAt wr (w.heap.size + 2) (zeroBk.c nilS) 53 ∧ RowAt wr NA (k0.c nilS) 81 ∧ RamB wr B b p f c O ∧ Went B (Or1 O (.slice va l.length vc)) (Or1 O (.slice v4a (l.length + 1) v4c)) w wr ∧ wr.ownsRow Bi 102 6 (.slice v4a (l.length + 1) v4c) (l.length + 1) (reqL (l ++ [(q, .slice wa (wriL ch.ps).length wq)])) ∧ InAt wr Bi O (.slice v4a (l.length + 1) v4c) (l ++ [(q, .slice wa (wriL ch.ps).length wq)]) ∧ FarB O w.heap.size 3 ∧ w.heap.size + 3 ≤ wr.heap.size) (fun sv wr => nxM w.heap.size s.nx k wr)
    case atStart => exact ⟨0, Nat.zero_le _, by rw [hs0]; exact hr, hq, hna, hM4, hW4, hv4, hI4, hF, hS⟩
    case round =>
      clear hr hq hna hM4 hW4 hv4 hI4 hF hS hA hB
      obtain ⟨j, hj, hr, hq, hna, hM, hW, hV, hI, hF, hS⟩ := hrel
      have hB : B ≤ wr.heap.size := by omega
      by_cases hlt : j < k
      · have hnot := HKK.out.2 j hlt
        have HFj := hide (HFn.out wr _ _ j hV)
        have hid : ((s.nx + j) % 4294967296 + 1) % 4294967296 = (s.nx + (j + 1)) % 4294967296 := by omega
        have hme : nxM w.heap.size s.nx k wr = k - j := nxM_at hr hnx (by omega)
        have HME := hide hme
        generalize idxQ (s.l ++ [q]) ((s.nx + j) % 4294967296) = z at *
        have tz : decide (0 ≤ z) = true := by simpa using hnot
        have HID := hide hid
        have hxl : (s.nx + j) % 4294967296 < 4294967296 := Nat.mod_lt _ (by decide)
        obtain ⟨xj, hxj⟩ : ∃ x, (s.nx + j) % 4294967296 = x := ⟨_, rfl⟩
        rw [hxj] at hr HFj HID hxl
        have ex : Hid (((xj : Int) + 1) % 4294967296 = (((xj + 1) % 4294967296 : Nat) : Int)) := hide (by omega)
        have ew : Hid (IntKind.u32.wrap ((xj : Int) + 1) = (((xj + 1) % 4294967296 : Nat) : Int)) := hide (by rw [IntKind.wrap_u32]; omega)
        obtain ⟨sj, hsj⟩ : ∃ x : Bk, { s with nx := xj } = x := ⟨_, rfl⟩
        rw [hsj] at hr
        have hsn : sj.nx = xj := by rw [← hsj]
        have HSJ : Hid (∀ n, ({ sj with nx := n } : Bk) = { s with nx := n }) := hide (fun n => by rw [← hsj])
        clear hnot hid hme hxj hsj
        go_wp2_with (first | ((with_reducible refine ld_bin w.heap.size sj _ _ hr ?_ ?_ ?_); exact rfl; exact rfl) | ((with_reducible refine ld_bnx w.heap.size sj _ _ hr ?_ ?_ ?_); exact rfl; exact rfl; rw [hsn]) | (go_at_call 47; (with_reducible refine HFj.out.mono ?_); rintro e W ⟨rfl, hbc⟩; replace hr := hr.bl hbc; replace hq := hq.bl hbc; replace hna := hna.bl hbc; replace hM := hM.bl hbc; replace hW := hW.bl hbc hB; replace hV := own_bel hV hbc; replace hI := hI.bl hbc; replace hS := Nat.le_trans hS hbc.size; replace hB := Nat.le_trans hB hbc.size; clear hbc) | ((with_reducible refine st_bnx w.heap.size sj _ ((xj + 1) % 4294967296) _ hr ?_ ?_ ?_); exact rfl; (first | exact rfl | (exact congrArg _ ex.out) | (exact congrArg _ ew.out)); intro W hnew ho; replace hq := hq.only ho (by omega); replace hna := hna.only ho (by omega); replace hM := hM.only ho (hF.at 0 (by omega)); (replace hW := went_onlyO hW ho (by omega) (by omega)); replace hS := (show w.heap.size + 3 ≤ W.heap.size by rw [ho.size]; exact hS); replace hV := own_only hV ho (fun e => by have := hv4n _ e; omega); replace hI := hI.only ho (fun e => by have := hv4n _ e; omega) (fun x hx e => in_seg_ne hI hx e hr); replace hr := hnew; clear hnew ho))
        (try simp only [Act.put])
        go_roundw
        case rel => exact ⟨j + 1, hlt, by rw [← HID.out, ← HSJ.out]; exact hr, hq, hna, hM, hW, hV, hI, hF, hS⟩
        case measure =>
          have h2 := nxM_at (k := k) (by rw [HSJ.out, HID.out] at hr; exact hr) hnx (show j + 1 < 4294967296 by omega)
          rw [HME.out, h2]; omega
      · obtain rfl : j = k := by omega
        have hnot := HKK.out.1
        have HFj := hide (HFn.out wr _ _ j hV)
        generalize idxQ (s.l ++ [q]) ((s.nx + j) % 4294967296) = z at *
        have tz : decide (0 ≤ z) = false := by simp; omega
        obtain ⟨sj, hsj⟩ : ∃ x : Bk, { s with nx := (s.nx + j) % 4294967296 } = x := ⟨_, rfl⟩
        have hcl : ∀ u, ({ s with l := s.l ++ [q], nx := (s.nx + j) % 4294967296 } : Bk).c u = sj.c u := fun u => by rw [← hsj]; rfl
        have HCL := hide hcl
        rw [hsj] at hr
        have hsn : (s.nx + j) % 4294967296 = sj.nx := by rw [← hsj]
        rw [hsn] at HFj
        clear hnot hcl hsj
        go_upto_region 11 with (first | ((with_reducible refine ld_bin w.heap.size sj _ _ hr ?_ ?_ ?_); exact rfl; exact rfl) | ((with_reducible refine ld_bnx w.heap.size sj _ _ hr ?_ ?_ ?_); exact rfl; exact rfl) | (go_at_call 47; (with_reducible refine HFj.out.mono ?_); rintro e W ⟨rfl, hbc⟩; replace hr := hr.bl hbc; replace hq := hq.bl hbc; replace hna := hna.bl hbc; replace hM := hM.bl hbc; replace hW := hW.bl hbc hB; replace hV := own_bel hV hbc; replace hI := hI.bl hbc; replace hS := Nat.le_trans hS hbc.size; replace hB := Nat.le_trans hB hbc.size; clear hbc))
        refine wp_region_held_drew (S := (fun V => RowAt V w.heap.size (sj.c (.slice v4a (l.length + 1) v4c)) 53 ∧ RowAt V NA (k0.c nilS) 81)) (by kernel_rfl) ?_ (fun hHeld => ?_)
        · exact ⟨hr.dr, hna.dr⟩
        replace hM := hM.dr
        replace hW := hW.dr
        replace hS : w.heap.size + 3 ≤ (World.drew _).heap.size := hS
        replace hB : B ≤ (World.drew _).heap.size := hB
        replace hq := hq.dr
        replace hI := hI.bl ((Below.refl _ _).drew)
        generalize World.drew _ = V at hHeld hM hW hS hB hq hI  ⊢
        clear hr hna hV
        refine tkO 0 (.agg (sj.c (.slice v4a (l.length + 1) v4c))) (by simp only [gT, gZ]; rfl) (y_bk w.heap.size sj _ (fun V hV => hV.1) rfl rfl) ?_
        simp only [Act.put, pA, pZ, pS]
        refine tkO 1 (.agg (k0.c nilS)) (by simp only [gT, gZ, gS]; rfl) (y_ak NA k0 _ (fun V hV => hV.2) rfl rfl) ?_
        simp only [Act.put, pA, pZ, pS]
        refine wpAnyH_ready (rs := [2, 3]) (by kernel_rfl) (by simp) ?_
        refine AllReadyH.cons (o := ?oi100) ?hi100 (fun K hK => ?b100) (AllReadyH.cons (o := ?oi101) ?hi101 (fun K hK => ?b101) (AllReadyH.nil))
        case hi100 => (simp only [List.getElem?_toArray, List.getElem?_cons_zero, List.getElem?_cons_succ]; rfl)
        case hi101 => (simp only [List.getElem?_toArray, List.getElem?_cons_zero, List.getElem?_cons_succ]; rfl)
        case b100 =>
          obtain ⟨NX, hNX0⟩ : ∃ n, V.heap.size = n := ⟨_, rfl⟩
          have hx0 : w.heap.size + 3 ≤ NX := hNX0 ▸ hS
          have hxO : ¬ O NX := fun e => absurd (hM.lt NX e) (by omega)
          rw [if_pos (by rfl)]
          (with_reducible refine s_bsr 55 81 1 Tryz.underlying55 (k0.c nilS) NX hNX0 [(0, .agg (k0.c nilS))] ?_ (bs_ask _ _ _ _) ?_)
          · first | rfl | (simp; done) | kernel_rfl
          intro V2 hxr hb' hz'
          have hbc := hNX0 ▸ hb'
          have hH2 := hide (And.intro (hHeld.1.bl hbc) (hHeld.2.bl hbc))
          replace hM := hM.bl hbc
          replace hW := hW.bl hbc hB
          replace hq := hq.bl hbc
          replace hI := hI.bl hbc
          replace hS := Nat.le_trans hS hbc.size
          replace hB := Nat.le_trans hB hbc.size
          clear hHeld hbc hb' hz' hNX0
          refine hK.out _ _ ?_ (fun hHeld => ?_)
          · exact hH2.out
          clear hK K
          clear hH2
          refine skO 3 (by simp only [gT, gZ, gS]; rfl) (fun K hK => ?_)
          rw [if_pos (by rfl)]
          (with_reducible refine s_bk (w.heap.size + 2) _ _ sj (.slice v4a (l.length + 1) v4c) rfl hq ?_ ?_ ?_)
          · exact rfl
          · exact rfl
          intro V3 hnew ho
          have hH2 := hide (And.intro (hHeld.1.only ho (by omega)) (hHeld.2.only ho (by omega)))
          replace hM := hM.only ho (hF.at 2 (by omega))
          replace hW := went_onlyO hW ho (by omega) (by omega)
          (try replace hxr := hxr.only ho (by omega))
          replace hI := hI.only ho (fun e => by have := hv4n _ e; omega) (fun x hx e => in_seg_ne hI hx e hq)
          replace hS := (show w.heap.size + 3 ≤ V3.heap.size by rw [ho.size]; exact hS)
          replace hB := (show B ≤ V3.heap.size by rw [ho.size]; exact hB)
          replace hq := hnew
          clear hHeld ho hnew
          refine hK.out _ _ ?_ (fun hHeld => ?_)
          · exact hH2.out
          clear hK K
          clear hH2
          refine tkO 4 (.slice (some ⟨NX, 0, none⟩) 1 1) (by simp only [gT, gZ, gS]; rfl) (puO (by (intro w hSw; (try dsimp only at hSw); go_simp))) ?_
          simp only [Act.put, pA, pZ, pS]
          refine wpAnyH_done (by kernel_rfl) ?_ _
          clear hHeld
          go_simp
          go_wp2
          refine bodyPost_ret (results_cell_u Tryz.results78 _ _ (w.heap.size + 2) _ _ _ rfl hq Tryz.underlying53 rfl size_bk) rfl ?_
          refine ⟨_, _, by first | (rw [HCL.out]; done) | (rw [HCL.out]; rfl), l ++ [(q, .slice wa (wriL ch.ps).length wq)], O, nilS, by rw [List.map_append, HSL.out]; rfl, hM, hW, hI, hv4v, ⟨?_, ?_, ?_⟩⟩
          · exact own_askX hxr (by omega) (HKL.out _)
          · intro x hx
            rw [List.mem_singleton.1 hx]
            exact ⟨.inl ⟨rfl, rfl⟩⟩
          · intro g e
            cases e
            exact hxO
        case b101 =>
          rw [if_pos (by rfl)]
          (with_reducible refine s_bk (w.heap.size + 2) _ _ sj (.slice v4a (l.length + 1) v4c) rfl hq ?_ ?_ ?_)
          · exact rfl
          · exact rfl
          intro V3 hnew ho
          have hH2 := hide (And.intro (hHeld.1.only ho (by omega)) (hHeld.2.only ho (by omega)))
          replace hM := hM.only ho (hF.at 2 (by omega))
          replace hW := went_onlyO hW ho (by omega) (by omega)
          (try replace hxr := hxr.only ho (by omega))
          replace hI := hI.only ho (fun e => by have := hv4n _ e; omega) (fun x hx e => in_seg_ne hI hx e hq)
          replace hS := (show w.heap.size + 3 ≤ V3.heap.size by rw [ho.size]; exact hS)
          replace hB := (show B ≤ V3.heap.size by rw [ho.size]; exact hB)
          replace hq := hnew
          clear hHeld ho hnew
          refine hK.out _ _ ?_ (fun hHeld => ?_)
          · exact hH2.out
          clear hK K
          clear hH2
          refine skO 2 (by simp only [gT, gZ, gS]; rfl) (fun K hK => ?_)
          obtain ⟨NX, hNX0⟩ : ∃ n, V3.heap.size = n := ⟨_, rfl⟩
          have hx0 : w.heap.size + 3 ≤ NX := hNX0 ▸ hS
          have hxO : ¬ O NX := fun e => absurd (hM.lt NX e) (by omega)
          rw [if_pos (by rfl)]
          (with_reducible refine s_bsr 55 81 1 Tryz.underlying55 (k0.c nilS) NX hNX0 [(0, .agg (k0.c nilS))] ?_ (bs_ask _ _ _ _) ?_)
          · first | rfl | (simp; done) | kernel_rfl
          intro V2 hxr hb' hz'
          have hbc := hNX0 ▸ hb'
          have hH2 := hide (And.intro (hHeld.1.bl hbc) (hHeld.2.bl hbc))
          replace hM := hM.bl hbc
          replace hW := hW.bl hbc hB
          replace hq := hq.bl hbc
          replace hI := hI.bl hbc
          replace hS := Nat.le_trans hS hbc.size
          replace hB := Nat.le_trans hB hbc.size
          clear hHeld hbc hb' hz' hNX0
          refine hK.out _ _ ?_ (fun hHeld => ?_)
          · exact hH2.out
          clear hK K
          clear hH2
          refine tkO 4 (.slice (some ⟨NX, 0, none⟩) 1 1) (by simp only [gT, gZ, gS]; rfl) (puO (by (intro w hSw; (try dsimp only at hSw); go_simp))) ?_
          simp only [Act.put, pA, pZ, pS]
          refine wpAnyH_done (by kernel_rfl) ?_ _
          clear hHeld
          go_simp
          go_wp2
          refine bodyPost_ret (results_cell_u Tryz.results78 _ _ (w.heap.size + 2) _ _ _ rfl hq Tryz.underlying53 rfl size_bk) rfl ?_
          refine ⟨_, _, by first | (rw [HCL.out]; done) | (rw [HCL.out]; rfl), l ++ [(q, .slice wa (wriL ch.ps).length wq)], O, nilS, by rw [List.map_append, HSL.out]; rfl, hM, hW, hI, hv4v, ⟨?_, ?_, ?_⟩⟩
          · exact own_askX hxr (by omega) (HKL.out _)
          · intro x hx
            rw [List.mem_singleton.1 hx]
            exact ⟨.inl ⟨rfl, rfl⟩⟩
          · intro g e
            cases e
            exact hxO
end Go.Proofs.YtaaiockiojejeaaGreatDoor
