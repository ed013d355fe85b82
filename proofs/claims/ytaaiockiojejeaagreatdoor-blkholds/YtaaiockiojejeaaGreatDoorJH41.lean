/-
  Pieces of the laws' walks.
-/
import Derived.Test.YtaaiockiojejeaaGreatDoorJH40
import Derived.Test.YtaaiockiojejeaaGreatDoorJH28
import Derived.Test.YtaaiockiojejeaaGreatDoorJH21
import Derived.Test.YtaaiockiojejeaaGreatDoorJH22
import Derived.Test.YtaaiockiojejeaaGreatDoorJH29
import Derived.Test.YtaaiockiojejeaaGreatDoorJH26
import Derived.Test.YtaaiockiojejeaaGreatDoorJH38
namespace Go.Proofs.YtaaiockiojejeaaGreatDoor
open Go.RowKit
set_option linter.unusedVariables false
set_option linter.unusedSimpArgs false

def Bk.wl (s : Bk) (l : List Rq) : Bk := ⟨s.p, s.sc, s.be, s.nx, l⟩
/-- What Finish answers. -/
structure Fin (s : Bk) (id B b c : Nat) (O : Nat → Prop) (w : World) (e : Ending) (w' : World) : Prop where
  ex : (∃ z : Int, e = .returned (.tuple #[.agg (zeroBk.c nilS), .iface 129 (.int .i64 z)]) ∧ (idxQ s.l id < 0 → z = 8) ∧ Below w.heap.size w w') ∨
    ∃ (k : Nat) (s' : Bk) (v' : Value) (l' : List (Rq × Value)) (O' : Nat → Prop) (f' : Nat → Nat), idxQ s.l id = (k : Nat) ∧ k < s.l.length ∧ e = .returned (.tuple #[.agg (s'.c v'), .nilIface]) ∧ Good s' ∧ s'.l = s.l.eraseIdx k ∧ l'.map (·.1) = s'.l ∧ RamB w' B b 2 f' (c + 300) O' ∧ Went B O O' w w' ∧ InAt w' w.heap.size O' v' l'
theorem finish_all (s : Bk) (hs : Good s) (l : List (Rq × Value)) (hsl : l.map (·.1) = s.l) (v : Value) (id : Nat) {Bi : Nat} {w : World} {B b c : Nat} {f : Nat → Nat} {O : Nat → Prop} (h : RamB w B b 2 f c O) (hA : AreasAt w) (hG : 2 < B) (hI : InAt w Bi O v l) (hc9 : c ≤ 500000000) (okv : Bool) (da : Option Addr) (m dc : Nat) (hm : m ≤ 2000000) {Bd : Nat} (hD : okv = true → w.ownsRow Bd 5 1 (.slice da m dc) m (byteV (List.replicate m 0))) :
    Calls Tryz.prog 17 #[.agg (s.c v), .pointer (some ⟨b, 0, none⟩), .int .u32 (id : Nat), .bool okv, .slice da m dc] w (Fin s id B b c O w) := by
  have hll : l.length ≤ 8 := by rw [← List.length_map (f := (·.1)), hsl]; exact hs.len
  rcases Int.lt_or_le (idxQ s.l id) 0 with hn | hp
  · refine (finish_none s l hsl (by omega) v b id okv hI (.slice da m dc) hn).mono ?_
    rintro e w' ⟨rfl, hb⟩
    exact ⟨.inl ⟨8, rfl, fun _ => rfl, hb⟩⟩
  · obtain ⟨k, q, hk, hq, hid⟩ := idxQ_pos hp
    have hkl : k < s.l.length := (List.getElem?_eq_some_iff.1 hq).1
    obtain ⟨⟨q', qv⟩, hlq⟩ : ∃ x, l[k]? = some x := ⟨_, List.getElem?_eq_getElem (by rw [← List.length_map (f := (·.1)), hsl]; exact hkl)⟩
    obtain rfl : q' = q := by
      have : (l.map (·.1))[k]? = some q' := by rw [List.getElem?_map, hlq]; rfl
      rw [hsl, hq] at this
      exact (Option.some.inj this).symm
    have hqg := hs.qs q' (List.mem_of_getElem? hq)
    have hgood : ∀ (f1 : Nat → Nat) (L : List Sg) (bs : List Nat), Good ((ansV 2 f1 s q'.hd L bs).2.wl (s.l.eraseIdx k)) := fun f1 L bs => by
      obtain ⟨g1, g2⟩ := ans_good (f := f1) (hd := q'.hd) (l := L) (b := bs) hs
      have := erase_good (k := k) g1
      rwa [g2] at this
    have hneg : ¬ idxQ s.l id < 0 := by omega
    cases okv with
    | false =>
      refine (finish_bad s hs.ok l hsl (by omega) v id h hA hG hI (by omega) k q' qv hk hlq hqg.pos da m dc).mono ?_
      rintro e w' ⟨v', rfl, l', O', h1, h2, h3, h4⟩
      exact ⟨.inr ⟨k, (telV 2 f s q'.hd q'.l 1).2.wl (s.l.eraseIdx k), v', l', O', _, hk, hkl, rfl, hgood f (lasB q'.l) [1], rfl, h1, h2.more (by omega), h3, h4⟩⟩
    | true =>
      by_cases hw : q'.wr = true
      · by_cases hm0 : m = 0
        · refine (finish_wrote s hs.ok l hsl (by omega) v id h hA hG hI (by omega) k q' qv hk hlq hqg.pos da m dc hw hm0).mono ?_
          rintro e w' ⟨v', rfl, l', O', h1, h2, h3, h4⟩
          exact ⟨.inr ⟨k, (telV 2 f s q'.hd q'.l 0).2.wl (s.l.eraseIdx k), v', l', O', _, hk, hkl, rfl, hgood f (lasB q'.l) [0], rfl, h1, h2.more (by omega), h3, h4⟩⟩
        · refine (finish_long s l hsl (by omega) v b id true hI k q' qv hk hlq da m dc rfl (by rw [if_pos hw]; omega)).mono ?_
          rintro e w' ⟨rfl, hb⟩
          exact ⟨.inl ⟨2, rfl, fun q => absurd q hneg, hb⟩⟩
      · have hw' : q'.wr = false := by simpa using hw
        by_cases hmn : q'.n = (m : Nat)
        · refine (finish_read s hs.ok l hsl (by omega) v id h hA hG hI (by omega) k q' qv hk hlq hqg.pos da m dc (List.replicate m 0) (List.length_replicate ..) (fun y hy => by rw [List.eq_of_mem_replicate hy]; decide) (hD rfl) hw' hmn hm).mono ?_
          rintro e w' ⟨v', rfl, l', O', h1, h2, h3, h4⟩
          exact ⟨.inr ⟨k, (ansV 2 f s q'.hd q'.l (List.replicate m 0 ++ [0])).2.wl (s.l.eraseIdx k), v', l', O', _, hk, hkl, rfl, hgood f q'.l _, rfl, h1, h2.more (by have := hqg.len; omega), h3, h4⟩⟩
        · refine (finish_long s l hsl (by omega) v b id true hI k q' qv hk hlq da m dc rfl (by rw [if_neg hw]; omega)).mono ?_
          rintro e w' ⟨rfl, hb⟩
          exact ⟨.inl ⟨2, rfl, fun q => absurd q hneg, hb⟩⟩
end Go.Proofs.YtaaiockiojejeaaGreatDoor
namespace Go.Proofs.YtaaiockiojejeaaGreatDoor
open Go.RowKit
set_option linter.unusedVariables false
set_option linter.unusedSimpArgs false

variable {ops : Array Oper} {rest : List Oper} {dst : Option Tmp} {ty : TypeId} {pos : String} {after : Array Edge} {a : Act} {w : World} {Q : Exit → Act → World → Prop} {x y : Operand} {gd : Option (Nat × Bool)}
theorem ld_intc (b : Nat) (v : Int) (t' : TypeId) (hr : RowAt w b #[.int .i64 v] t') (hx : a.eval x = .pointer (some ⟨b, 0, none⟩)) (hw : Region.wanted ⟨dst, .load 3 x, ty, pos, after, gd⟩ (yielded ops a.tmps) = true)
    (k : wpList Tryz.prog ops Q rest (a.put dst (.int .i64 v)) w) : wpList Tryz.prog ops Q (⟨dst, .load 3 x, ty, pos, after, gd⟩ :: rest) a w :=
  op_load_cellg b 0 hx #[.int .i64 v] _ _ hr rfl _ Tryz.underlying3 rfl hw k
set_option maxHeartbeats 1000000 in
theorem inmem_good (s : Sg) (ok : s.Ok) (h0 : 0 ≤ s.n) (hi : inS 2 s = true) (w : World) :
    Calls Tryz.prog 104 #[.agg s.cells, .int .i64 2] w fun e w' => e = .returned (.bool true) ∧ Below w.heap.size w w' := by
  have hat := ok.at'
  by_cases hz : s.n = 0
  · have t1 : s.n ≤ 0 := by omega
    go_enter Tryz.func104, Tryz.ntmps104
    go_wp2_with (first | ((with_reducible refine bx_sp w.heap.size s ?_ ?_ ?_); exact rfl; exact rfl; intro W hr hbw hz2) | ((with_reducible refine ld_sn w.heap.size s _ hr ?_ ?_ ?_); exact rfl; exact rfl) | ((with_reducible refine ld_sat w.heap.size s _ hr ?_ ?_ ?_); exact rfl; exact rfl))
    go_ret
    exact ⟨by first | rfl | (simp [*]; done) | (simp; omega), hbw⟩
  · have t1 : 0 < s.n := by omega
    have hb : plM s.at' + s.n.toNat ≤ 8192 := by
      have := of_decide_eq_true hi
      omega
    have e1 : ((s.at' : Int) - 2147483648) % 4294967296 = ((plM s.at' : Nat) : Int) := by unfold plM; split <;> omega
    have hp : plM s.at' ≤ 8192 := by omega
    have hn : s.n ≤ 8192 := by omega
    have t2 : ((plM s.at' : Nat) : Int) + s.n ≤ 8192 := by omega
    have e2 : s.n % 18446744073709551616 = s.n := by omega
    have e3 : (((plM s.at' : Nat) : Int) + s.n) % 18446744073709551616 = ((plM s.at' : Nat) : Int) + s.n := by omega
    generalize plM s.at' = pm at *
    go_enter Tryz.func104, Tryz.ntmps104
    go_wp2_with (first | ((with_reducible refine bx_sp w.heap.size s ?_ ?_ ?_); exact rfl; exact rfl; intro W hr hbw hz2) | ((with_reducible refine ld_sn w.heap.size s _ hr ?_ ?_ ?_); exact rfl; exact rfl) | ((with_reducible refine ld_sat w.heap.size s _ hr ?_ ?_ ?_); exact rfl; exact rfl))
    go_ret
    exact ⟨by first | rfl | (simp [*]; done) | (simp; omega), hbw⟩
set_option maxHeartbeats 1000000 in
theorem odd_good (s : Sg) (ok : s.Ok) (h0 : 0 ≤ s.n) (hi : inS 2 s = true) (hw : s.wr = true) (Pb : Nat) (t' : TypeId) (w : World) (hP : RowAt w Pb #[.int .i64 2] t') :
    Calls Tryz.prog 103 #[.agg s.cells, .pointer (some ⟨Pb, 0, none⟩)] w fun e w' => e = .returned (.bool false) ∧ Below w.heap.size w w' := by
  have HI := hide (inmem_good s ok h0 hi)
  go_enter Tryz.func103, Tryz.ntmps103
  go_wp2_with (first | ((with_reducible refine bx_sp w.heap.size s ?_ ?_ ?_); exact rfl; exact rfl; intro W hr hb hz; replace hP := hP.bl hb) | ((with_reducible refine ld_swr w.heap.size s _ hr ?_ ?_ ?_); exact rfl; exact rfl; rw [hw]) | ((with_reducible refine ld_sp w.heap.size s hr ?_ ?_ ?_); exact rfl; exact rfl) | ((with_reducible refine ld_intc Pb _ _ hP ?_ ?_ ?_); exact rfl; exact rfl) | (go_at_call 104; (with_reducible refine (HI.out _).mono ?_); rintro e W2 ⟨rfl, hb2⟩; replace hb := hb.trans (hb2.mono hb.size)))
  go_ret
  exact ⟨rfl, hb⟩
set_option maxHeartbeats 2000000 in
theorem idxs_none (l : List Sg) (hl : l.length ≤ 1000000) (hg : ∀ g ∈ l, g.Ok ∧ g.wr = true ∧ inS 2 g = true ∧ 0 ≤ g.n) (Pb : Nat) (t' : TypeId) {w : World} {B : Nat} {v : Value} (hP : RowAt w Pb #[.int .i64 2] t') (hL : w.ownsRow B 103 3 v l.length (segL l)) :
    Calls Tryz.prog 132 #[v, .func (.func 103) #[] #[.pointer (some ⟨Pb, 0, none⟩)]] w fun e w' => e = .returned (.int .i64 (-1)) ∧ Below w.heap.size w w' := by
  have HP := hide hP
  have HL := hide hL
  obtain ⟨n, hn⟩ : ∃ n, l.length = n := ⟨_, rfl⟩
  have HN := hide hn
  rw [hn] at hl
  obtain ⟨av, cap, rfl, hc1, hc2⟩ := own_form hL
  rw [hn] at hc1 ⊢
  clear hP hL hn
  go_enter Tryz.func132, Tryz.ntmps132
  go_wp2
  go_loopw [8] (fun iv wr => ∃ (k : Nat), k ≤ n ∧ iv = .int .i64 (k : Nat) ∧ Below w.heap.size w wr) (fun iv _ => n - (intOf iv).toNat)
  case atStart => exact ⟨0, Nat.zero_le _, rfl, Below.refl _ _⟩
  case round =>
    obtain ⟨k, hk, rfl, hb⟩ := hrel
    by_cases hlt : k < n
    · obtain ⟨gb, cap', cur, hve, _, _, _, hLr0, _, htk⟩ := own_row (own_bel HL.out hb) (show 0 < l.length by rw [HN.out]; omega)
      obtain ⟨rfl, rfl⟩ : av = some ⟨gb, 0, none⟩ ∧ cap = cap' := by injection hve with e1 e2 e3; exact ⟨e1, e3⟩
      have hLr := hLr0
      obtain ⟨s, hs⟩ : ∃ s, l[k]? = some s := ⟨_, List.getElem?_eq_getElem (by rw [HN.out]; exact hlt)⟩
      have hmid := mid_s htk hs
      obtain ⟨g1, g2, g3, g4⟩ := hg s (List.mem_of_getElem? hs)
      have HC : Hid (Calls Tryz.prog 103 #[.agg s.cells, .pointer (some ⟨Pb, 0, none⟩)] wr fun e w' => e = .returned (.bool false) ∧ Below wr.heap.size wr w') := hide (odd_good s g1 g4 g3 g2 Pb t' wr (HP.out.bl hb))
      clear hs htk hve
      go_wp2_with (first | ((with_reducible refine ld_sm gb (k * 3) s cur _ hLr hmid ?_ ?_); exact rfl) | (go_at_call 103; (with_reducible refine HC.out.mono ?_); rintro e W2 ⟨rfl, hb2⟩))
      go_roundw
      case rel => exact ⟨k + 1, hlt, by go_num, hb.trans (hb2.mono hb.size)⟩
      case measure => simp [intOf]; omega
    · obtain rfl : k = n := by omega
      go_wp2
      go_ret
      exact ⟨rfl, hb⟩
set_option maxHeartbeats 1000000 in
theorem cont_none (l : List Sg) (hl : l.length ≤ 1000000) (hg : ∀ g ∈ l, g.Ok ∧ g.wr = true ∧ inS 2 g = true ∧ 0 ≤ g.n) (Pb : Nat) (t' : TypeId) {w : World} {B : Nat} {v : Value} (hP : RowAt w Pb #[.int .i64 2] t') (hL : w.ownsRow B 103 3 v l.length (segL l)) :
    Calls Tryz.prog 105 #[v, .func (.func 103) #[] #[.pointer (some ⟨Pb, 0, none⟩)]] w fun e w' => e = .returned (.bool false) ∧ Below w.heap.size w w' := by
  have HX := hide (idxs_none l hl hg Pb t' hP hL)
  obtain ⟨av, cap, rfl, hc1, hc2⟩ := own_form hL
  go_enter Tryz.func105, Tryz.ntmps105
  go_wp2_with (first | (go_at_call 132; (with_reducible refine HX.out.mono ?_); rintro e W2 ⟨rfl, hb⟩))
  go_ret
  exact ⟨rfl, hb⟩
set_option maxHeartbeats 2000000 in
theorem maybe_good (q : Rq) (hq : QGood q) (qv : Value) {w : World} {B : Nat} (hL : w.ownsRow B 103 3 qv q.l.length (segL q.l)) :
    Calls Tryz.prog 55 #[.agg (q.c qv), .int .u32 100, .int .i64 2] w fun e w' => e = .returned (.bool true) ∧ Below w.heap.size w w' := by
  have h0 := hq.h0
  have h1 := hq.h1
  have n0 := hq.n0
  have n1 := hq.n1
  have r1 := hq.r1
  have r2 := hq.r2
  have HD : Hid (∀ W, Calls Tryz.prog 102 #[.int .i64 q.n] W fun e w' => e = .returned (.bool true) ∧ Below W.heap.size W w') := hide (fun W => by
    have h := isdata_any q.n (by omega) (by omega) W
    have e : isDat q.n = true := by unfold isDat; rw [decide_eq_true n0, decide_eq_true hq.n5]; rfl
    rw [e] at h
    exact h.mono (fun e w' h => ⟨h.1, h.2 ▸ Below.refl _ _⟩))
  have HWi : Hid (∀ W, Calls Tryz.prog 76 #[.int .u32 100, .int .u64 (q.se : Nat), .int .i64 q.n] W fun e w' => e = .returned (.bool true) ∧ Below W.heap.size W w') := hide (fun W => by
    have hse := hq.ok.se
    have h := iswithin_any 100 q.se q.n.toNat (by decide) (by omega) (by omega) W
    rw [show ((q.n.toNat : Nat) : Int) = q.n by omega, hq.wit] at h
    exact h.mono (fun e w' h => ⟨h.1, h.2 ▸ Below.refl _ _⟩))
  have HCo : Hid (∀ W t', RowAt W (w.heap.size + 1) #[.int .i64 2] t' → W.ownsRow B 103 3 qv q.l.length (segL q.l) → Calls Tryz.prog 105 #[qv, .func (.func 103) #[] #[.pointer (some ⟨w.heap.size + 1, 0, none⟩)]] W fun e w' => e = .returned (.bool false) ∧ Below W.heap.size W w') := hide (fun W t' hP hL => cont_none q.l (by have := hq.len; omega) (fun g hg => ⟨hq.ok.l g hg, (hq.seg g hg).1, (hq.seg g hg).2.1, (hq.seg g hg).2.2⟩) _ t' hP hL)
  have HRo : Hid (∀ W, W.ownsRow B 103 3 qv q.l.length (segL q.l) → Calls Tryz.prog 72 #[qv] W fun e w' => e = .returned (.tuple #[.int .i64 (roomV false 0 q.l), .int .i64 (roomV true 0 q.l)]) ∧ Below W.heap.size W w') := hide (fun W hL => room_any q.l (by have := hq.len; omega) hq.ok.l hL)
  have hr3 := hq.r3
  generalize roomV true 0 q.l = rw' at *
  generalize roomV false 0 q.l = rr at *
  have hqo : qv.oneCell' = true := own_one hL
  have hse := hq.ok.se
  have ew : IntKind.u64.wrap ((q.se : Nat) : Int) = ((q.se : Nat) : Int) := by rw [IntKind.wrap_u64]; omega
  have d0 : decide (q.hd < 0) = false := by simp; omega
  have d1 : decide (256 ≤ q.hd) = false := by simp; omega
  have d2 : decide (1048576 < q.n) = false := by simp; omega
  clear hq
  cases hw : q.wr with
  | true =>
    go_enter Tryz.func55, Tryz.ntmps55
    go_wp2_with (first | ((with_reducible refine bx_rq w.heap.size q qv ?_ ?_ ?_); exact rfl; exact rfl; intro W hr hb hz) | ((with_reducible refine op_box1 (w.heap.size + 1) ?_ (.int .i64 2) ?_ rfl ?_); exact hz.out; exact rfl; intro W hP hb' hz'; replace hr := hr.bl (hz.out ▸ hb'); replace hb := hb.trans (hb'.mono (by omega)); replace hL := own_bel hL hb; clear hb' hz') | ((with_reducible refine ld_qhd w.heap.size q _ _ hr ?_ ?_ ?_); exact rfl; exact rfl) | ((with_reducible refine ld_qn w.heap.size q _ _ hr ?_ ?_ ?_); exact rfl; exact rfl) | ((with_reducible refine ld_qse w.heap.size q _ _ hr ?_ ?_ ?_); exact rfl; exact rfl) | ((with_reducible refine ld_ql w.heap.size q _ _ hr ?_ ?_ ?_); exact rfl; exact rfl) | ((with_reducible refine ld_qwr w.heap.size q _ _ hr ?_ ?_ ?_); exact rfl; exact rfl; rw [hw]) | (go_at_call 102; (with_reducible refine (HD.out _).mono ?_); rintro e W2 ⟨rfl, hbc⟩; replace hr := hr.bl hbc; replace hP := hP.bl hbc; replace hL := own_bel hL hbc; replace hb := hb.trans (hbc.mono hb.size); clear hbc) | (go_at_call 76; (try rw [ew]); (with_reducible refine (HWi.out _).mono ?_); rintro e W2 ⟨rfl, hbc⟩; replace hr := hr.bl hbc; replace hP := hP.bl hbc; replace hL := own_bel hL hbc; replace hb := hb.trans (hbc.mono hb.size); clear hbc) | (go_at_call 105; (with_reducible refine (HCo.out _ _ hP hL).mono ?_); rintro e W2 ⟨rfl, hbc⟩; replace hr := hr.bl hbc; replace hP := hP.bl hbc; replace hL := own_bel hL hbc; replace hb := hb.trans (hbc.mono hb.size); clear hbc) | (go_at_call 72; (with_reducible refine (HRo.out _ hL).mono ?_); rintro e W2 ⟨rfl, hbc⟩; replace hr := hr.bl hbc; replace hP := hP.bl hbc; replace hL := own_bel hL hbc; replace hb := hb.trans (hbc.mono hb.size); clear hbc))
    go_ret
    exact ⟨by first | rfl | (simp [*]; done) | (simp; omega), hb⟩
  | false =>
    replace hr3 := hr3 hw
    go_enter Tryz.func55, Tryz.ntmps55
    go_wp2_with (first | ((with_reducible refine bx_rq w.heap.size q qv ?_ ?_ ?_); exact rfl; exact rfl; intro W hr hb hz) | ((with_reducible refine op_box1 (w.heap.size + 1) ?_ (.int .i64 2) ?_ rfl ?_); exact hz.out; exact rfl; intro W hP hb' hz'; replace hr := hr.bl (hz.out ▸ hb'); replace hb := hb.trans (hb'.mono (by omega)); replace hL := own_bel hL hb; clear hb' hz') | ((with_reducible refine ld_qhd w.heap.size q _ _ hr ?_ ?_ ?_); exact rfl; exact rfl) | ((with_reducible refine ld_qn w.heap.size q _ _ hr ?_ ?_ ?_); exact rfl; exact rfl) | ((with_reducible refine ld_qse w.heap.size q _ _ hr ?_ ?_ ?_); exact rfl; exact rfl) | ((with_reducible refine ld_ql w.heap.size q _ _ hr ?_ ?_ ?_); exact rfl; exact rfl) | ((with_reducible refine ld_qwr w.heap.size q _ _ hr ?_ ?_ ?_); exact rfl; exact rfl; rw [hw]) | (go_at_call 102; (with_reducible refine (HD.out _).mono ?_); rintro e W2 ⟨rfl, hbc⟩; replace hr := hr.bl hbc; replace hP := hP.bl hbc; replace hL := own_bel hL hbc; replace hb := hb.trans (hbc.mono hb.size); clear hbc) | (go_at_call 76; (try rw [ew]); (with_reducible refine (HWi.out _).mono ?_); rintro e W2 ⟨rfl, hbc⟩; replace hr := hr.bl hbc; replace hP := hP.bl hbc; replace hL := own_bel hL hbc; replace hb := hb.trans (hbc.mono hb.size); clear hbc) | (go_at_call 105; (with_reducible refine (HCo.out _ _ hP hL).mono ?_); rintro e W2 ⟨rfl, hbc⟩; replace hr := hr.bl hbc; replace hP := hP.bl hbc; replace hL := own_bel hL hbc; replace hb := hb.trans (hbc.mono hb.size); clear hbc) | (go_at_call 72; (with_reducible refine (HRo.out _ hL).mono ?_); rintro e W2 ⟨rfl, hbc⟩; replace hr := hr.bl hbc; replace hP := hP.bl hbc; replace hL := own_bel hL hbc; replace hb := hb.trans (hbc.mono hb.size); clear hbc))
    go_ret
    exact ⟨by first | rfl | (simp [*]; done) | (simp; omega), hb⟩
end Go.Proofs.YtaaiockiojejeaaGreatDoor
namespace Go.Proofs.YtaaiockiojejeaaGreatDoor
open Go.RowKit
set_option linter.unusedVariables false
set_option linter.unusedSimpArgs false

variable {ops : Array Oper} {rest : List Oper} {dst : Option Tmp} {ty : TypeId} {pos : String} {after : Array Edge} {a : Act} {w : World} {Q : Exit → Act → World → Prop} {K : Act → World → Prop} {x y : Operand} {gd : Option (Nat × Bool)}
theorem ldc_u32 (b j : Nat) (v : Int) (cur : Array Value) (t' : TypeId) (hr : RowAt w b cur t') (hc : cur[j]? = some (.int .u32 v)) (hx : a.eval x = .pointer (some ⟨b, j, none⟩)) (hw : Region.wanted ⟨dst, .load 22 x, ty, pos, after, gd⟩ (yielded ops a.tmps) = true)
    (k : wpList Tryz.prog ops Q rest (a.put dst (.int .u32 v)) w) : wpList Tryz.prog ops Q (⟨dst, .load 22 x, ty, pos, after, gd⟩ :: rest) a w :=
  op_load_cellg b j hx cur _ _ hr hc _ Tryz.underlying22 rfl hw k
theorem ldc_int (b j : Nat) (v : Int) (cur : Array Value) (t' : TypeId) (hr : RowAt w b cur t') (hc : cur[j]? = some (.int .i64 v)) (hx : a.eval x = .pointer (some ⟨b, j, none⟩)) (hw : Region.wanted ⟨dst, .load 3 x, ty, pos, after, gd⟩ (yielded ops a.tmps) = true)
    (k : wpList Tryz.prog ops Q rest (a.put dst (.int .i64 v)) w) : wpList Tryz.prog ops Q (⟨dst, .load 3 x, ty, pos, after, gd⟩ :: rest) a w :=
  op_load_cellg b j hx cur _ _ hr hc _ Tryz.underlying3 rfl hw k
theorem ldc_bool (b j : Nat) (v : Bool) (cur : Array Value) (t' : TypeId) (hr : RowAt w b cur t') (hc : cur[j]? = some (.bool v)) (hx : a.eval x = .pointer (some ⟨b, j, none⟩)) (hw : Region.wanted ⟨dst, .load 4 x, ty, pos, after, gd⟩ (yielded ops a.tmps) = true)
    (k : wpList Tryz.prog ops Q rest (a.put dst (.bool v)) w) : wpList Tryz.prog ops Q (⟨dst, .load 4 x, ty, pos, after, gd⟩ :: rest) a w :=
  op_load_cellg b j hx cur _ _ hr hc _ Tryz.underlying4 rfl hw k
/-- Bytes that are made: a list of one's own. -/
theorem made_b (w : World) (n : Nat) (hn : n ≤ 1000000) : (Instr.makeSlice 37 (.int .i64 (n : Nat)) (.int .i64 (n : Nat))).run Tryz.prog w = .ok (.slice (some ⟨w.heap.size, 0, none⟩) n n) (w.alloc (.cells (madeCells #[.int .u8 0] n) 5)) := by
  obtain ⟨i, h1, h2, h3, h4⟩ := info_b
  have hr := run_make (P := Tryz.prog) w 37 5 i _ Tryz.underlying37 h1 h2 .i64 .i64 (n : Int) (n : Int) (by omega) (Int.le_refl _) (by rw [h4]; omega) (by omega)
  rw [Int.toNat_natCast, h3, Nat.mul_one] at hr
  exact hr
theorem made_own (w : World) (n : Nat) (hn : n ≤ 1000000) : (w.alloc (.cells (madeCells #[.int .u8 0] n) 5)).ownsRow w.heap.size 5 1 (.slice (some ⟨w.heap.size, 0, none⟩) n n) n (byteV (List.replicate n 0)) := by
  have h := World.ownsRow_lit (e := 5) (size := 1) w (madeCells #[.int .u8 0] n) n (Nat.le_refl _) (by unfold maxLen; omega) (by rw [size_madeCells, Nat.mul_one])
  rw [toList_madeCells_one] at h
  have e : byteV (List.replicate n 0) = List.replicate n (.int .u8 0) := by unfold byteV; rw [List.map_replicate]; rfl
  rw [e]; exact h
theorem s_mkb (n : Nat) (hn : n ≤ 1000000) (N : Nat) (hN : w.heap.size = N) (hx : a.eval x = .int .i64 (n : Nat)) (hy : a.eval y = .int .i64 (n : Nat))
    (k : ∀ W, W.ownsRow N 5 1 (.slice (some ⟨N, 0, none⟩) n n) n (byteV (List.replicate n 0)) → Below N w W → Hid (W.heap.size = N + 1) → K (a.put dst (.slice (some ⟨N, 0, none⟩) n n)) W) :
    Oper.wp Tryz.prog ⟨dst, .makeSlice 37 x y, ty, pos, after, none⟩ a w K Q := by
  subst hN
  have : (execOp a.eval ⟨dst, .makeSlice 37 x y, ty, pos, after, none⟩).run Tryz.prog w = .ok (.value (.slice (some ⟨w.heap.size, 0, none⟩) n n)) (w.alloc (.cells (madeCells #[.int .u8 0] n) 5)) := by
    unfold execOp
    simp only [hx, hy, Sem.run_bind, made_b w n hn, Result.andThen_ok, Sem.run_pure]
  unfold Oper.wp
  rw [this, Oper.upon_value]
  exact k _ (made_own w n hn) (below_one w _) (hide (by simp))
/-- What is asked for, when it is one. -/
theorem asks_one {W : World} {B : Nat} {O : Nat → Prop} {av dv : Value} {k : Ak} (h : AsksAt W B O av [(k, dv)]) : ∃ g cap cur, av = .slice (some ⟨g, 0, none⟩) 1 cap ∧ B ≤ g ∧ ¬ O g ∧ RowAt W g cur 81 ∧ cur[0]? = some (.int .u32 (k.id : Nat)) ∧ cur[1]? = some (.bool k.wr) ∧ cur[2]? = some (.int .u32 (k.se : Nat)) ∧ cur[3]? = some (.int .i64 k.n) ∧ cur[4]? = some dv := by
  obtain ⟨g, cap, cur, rfl, _, _, hb, hr, hs, ht⟩ := own_row h.row (by show 0 < 1; decide)
  have hcl : ∀ i, i < 5 → cur[i]? = (k.c dv)[i]? := fun i hi => by
    have e1 : (cur.toList.take ([(k, dv)].length * 5))[i]? = cur[i]? := by
      rw [List.getElem?_take, if_pos (by show i < 1 * 5; omega), Array.getElem?_toList]
    rw [← e1, ht]
    show ((k.c dv).toList ++ [])[i]? = _
    rw [List.append_nil, Array.getElem?_toList]
  exact ⟨g, cap, cur, rfl, hb, h.far g rfl, hr, hcl 0 (by decide), hcl 1 (by decide), hcl 2 (by decide), hcl 3 (by decide), hcl 4 (by decide)⟩
theorem map_one {α β : Type} {l : List (α × β)} {x : α} (h : l.map (·.1) = [x]) : ∃ y, l = [(x, y)] := by
  rcases l with _ | ⟨⟨a, b⟩, _ | ⟨c, t⟩⟩
  · cases h
  · simp only [List.map_cons, List.map_nil, List.cons.injEq, and_true] at h; exact ⟨b, by rw [h]⟩
  · simp at h
theorem in_one {W : World} {B : Nat} {O : Nat → Prop} {v qv : Value} {q : Rq} (h : InAt W B O v [(q, qv)]) : ∃ a c, v = .slice a 1 c := by
  obtain ⟨a, c, e, _, _⟩ := own_form h.row
  exact ⟨a, c, e⟩
theorem in_none {W : World} {B : Nat} {O : Nat → Prop} {v : Value} (h : InAt W B O v []) : ∃ a c, v = .slice a 0 c := by
  obtain ⟨a, c, e, _, _⟩ := own_form h.row
  exact ⟨a, c, e⟩
theorem map_none {α β : Type} {l : List (α × β)} (h : l.map (·.1) = []) : l = [] := by cases l; rfl; cases h
theorem lR_ok {la pu : Nat} (h1 : la < 65536) (h2 : pu < 65536) : (lR la pu).Ok := ⟨by show (_ : Int) ≤ 4; decide, by show (4 : Int) ≤ _; decide, by show 2147483648 < _; decide, by show 2147483904 < _; decide, by show 2147484160 < _; decide, h1, h2⟩
theorem lvP_ok {la pu ir : Nat} (h1 : la < 65536) (h2 : pu < 65536) (h3 : ir < 4294967296) : (lvP la pu ir).Ok := ⟨by show 15 < _; decide, by show 0 < _; decide, by show 0 < _; decide, by show 0 < _; decide, h3, by show 0 < _; decide, by show 1 < _; decide, lR_ok h1 h2, zeroRg_ok⟩
theorem lvS_ok : lvS.Ok := ⟨lvP_ok (by decide) (by decide) (by decide), by show 100 < _; decide, by show 0 < _; decide, fun q h => (by cases h), by show 0 ≤ _; decide⟩
/-- Poll of the disk that works, when one request comes of it. -/
theorem poll_lv {W : World} {B b c : Nat} {f : Nat → Nat} {O : Nat → Prop} (hM : RamB W B b 2 f c O) (hA : AreasAt W) (hG : 2 < B) (hc : c ≤ 1000) {s : Bk} {q : Rq} {k : Ak} (hp : polV 2 f lvS = ⟨f, s, [k]⟩) (hs : s.l = [q]) :
    Calls Tryz.prog 12 #[.agg (lvS.c nilS), .pointer (some ⟨b, 0, none⟩)] W fun e w' => ∃ v' av qv dv O', e = .returned (.tuple #[.agg (s.c v'), av]) ∧ RamB w' B b 2 f (c + 262144) O' ∧ Went B O O' W w' ∧ InAt w' W.heap.size O' v' [(q, qv)] ∧ AsksAt w' W.heap.size O' av [(k, dv)] := by
  have h := poll_any lvS lvS_ok [] rfl (by decide) nilS hM hA hG (InAt.nil W 0 O) (by omega)
  rw [hp] at h
  refine h.mono ?_
  rintro e w' ⟨v', av, rfl, l', O', al, h1, h2, h3, h4, h5, h6⟩
  simp only at h1 h2 h6
  rw [hs] at h1
  obtain ⟨qv, rfl⟩ := map_one h1
  obtain ⟨dv, rfl⟩ := map_one h6
  exact ⟨v', av, qv, dv, O', rfl, h2, h3, h4, h5⟩
end Go.Proofs.YtaaiockiojejeaaGreatDoor
