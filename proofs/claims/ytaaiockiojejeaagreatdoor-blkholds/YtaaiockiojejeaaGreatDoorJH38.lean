/-
  What blk's Poll does, of any state.
-/
import Derived.Test.YtaaiockiojejeaaGreatDoorJH37
namespace Go.Proofs.YtaaiockiojejeaaGreatDoor
open Go.RowKit
set_option linter.unusedVariables false
set_option linter.unusedSimpArgs false

theorem in_row_ne {w : World} {B g : Nat} {O : Nat → Prop} {v : Value} {l : List (Rq × Value)} {cs : Array Value} {t : TypeId} (h : InAt w B O v l) (e : v.ownBlock = some g) (hr : RowAt w g cs t) (ht : t ≠ 102) : False := ht (own_ty h.row e hr)
/-- So far it has come: k chains are left to be looked at. -/
structure PolR (p : Nat) (R x : X3) (t : Nat) : Prop where
  le : t ≤ 65536
  eq : polN p (65536 - t) x = R
theorem PolR.go {p : Nat} {R x : X3} {t : Nat} (h : PolR p R x t) (ht : t < 65536) (hl : x.s.l.length < 8) (hs : (stpV p x).1 = true) : PolR p R (stpV p x).2 (t + 1) :=
  ⟨ht, by
    have e := h.eq
    rw [show 65536 - t = (65536 - (t + 1)) + 1 by omega, polN, if_pos hl, if_pos hs] at e
    exact e⟩
theorem PolR.stop {p : Nat} {R x : X3} {t : Nat} (h : PolR p R x t) (ht : t < 65536) (hl : x.s.l.length < 8) (hs : (stpV p x).1 = false) : (stpV p x).2 = R := by
  have e := h.eq
  rw [show 65536 - t = (65536 - (t + 1)) + 1 by omega, polN, if_pos hl, if_neg (by rw [hs]; decide)] at e
  exact e
theorem PolR.done {p : Nat} {R x : X3} {t : Nat} (h : PolR p R x t) (ht : ¬ (t < 65536 ∧ x.s.l.length < 8)) : x = R := by
  have e := h.eq
  by_cases h1 : t < 65536
  · rw [show 65536 - t = (65536 - (t + 1)) + 1 by omega, polN, if_neg (fun k => ht ⟨h1, k⟩)] at e
    exact e
  · have := h.le
    rw [show 65536 - t = 0 by omega, polN] at e
    exact e
theorem srvV_asks {p : Nat} {f : Nat → Nat} {s : Bk} {ch : Ch} : (srvV p f s ch).2.2.length ≤ 1 := by
  unfold srvV
  split
  · exact Nat.zero_le _
  · split
    · split
      · exact Nat.le_refl _
      · exact Nat.zero_le _
    · exact Nat.zero_le _
theorem look_ok {p : Nat} {f : Nat → Nat} {r : Rg} {hd : Int} {ch : Ch} (hf : ∀ x, f x < 256) (hc : chkR r = true) (h : lookV p f r hd = some ch) : ∃ ps, ch = chOf f hd ps ∧ ChOk p f hd ps := by
  unfold lookV at h
  cases hk : walkV p f r hd with
  | none => rw [hk] at h; cases h
  | some ps =>
    rw [hk] at h
    simp only at h
    split at h
    · rename_i q
      cases h
      simp only [Bool.and_eq_true, decide_eq_true_eq, Bool.or_eq_true, Bool.not_eq_true'] at q
      exact ⟨ps, rfl, walk_parts hf hc hk, q.1, q.2.1, fun hm => q.2.2.resolve_left (by rw [hm]; decide)⟩
    · cases h
theorem next_took' {p : Nat} {f : Nat → Nat} {r : Rg} (he : (nextV p f r).2.2.2 = 0) (hi : (nextV p f r).2.2.1 = true) : chkR r = true ∧ (nextV p f r).1 = takenR r ∧ ((nextV p f r).2.1 : Int) < r.sz := by
  unfold nextV at *
  repeat' split at he
  all_goals (try (simp at he; done))
  all_goals (try (simp_all; done))
theorem chk_taken {r : Rg} (h : chkR r = true) : chkR (takenR r) = true := h
variable {ops : Array Oper} {rest : List Oper} {dst : Option Tmp} {ty : TypeId} {pos : String} {after : Array Edge} {a : Act} {w : World} {Q : Exit → Act → World → Prop} {x y : Operand}
theorem op_appa {B B' : Nat} {O : Nat → Prop} {av av2 : Value} {al al2 : List (Ak × Value)} (h : AsksAt w B O av al) (k : AsksAt w B' O av2 al2) (hB : B ≤ B') (hBw : B ≤ w.heap.size) (hO : ∀ x, O x → x < w.heap.size) (hl1 : al.length ≤ 1000000) (hl2 : al2.length ≤ 1000) (hx : a.eval x = av) (hy : a.eval y = av2)
    (kk : ∀ W av3, AsksAt W B O av3 (al ++ al2) → w.grownBy W av.ownBlock → wpList Tryz.prog ops Q rest (a.put dst av3) W) :
    wpList Tryz.prog ops Q (⟨dst, .call { callee := .builtin .append, args := #[x, y], argTypes := #[55, 55] }, 55, pos, after, none⟩ :: rest) a w := by
  obtain ⟨i, q1, q2, q3, q4⟩ := info_a
  have hc := fun g => k.row.cells (g := g)
  rcases k.row.2 with ⟨e1, e2⟩ | ⟨g, cap, cur, e1, _⟩
  · have : al2 = [] := List.eq_nil_of_length_eq_zero e2
    subst this
    obtain ⟨ba, bc, rfl, b1, b2⟩ := own_form h.row
    refine op_app0 55 81 i Tryz.underlying55 q1 ba al.length bc b1 hx (by rw [hy, e1]) (kk w _ (by rw [List.append_nil]; exact h) ⟨rfl, rfl, rfl, Nat.le_refl _, fun _ _ _ => rfl⟩)
  · rw [e1] at hc hy
    refine op_appl 55 81 i _ 5 48 Tryz.underlying55 q1 q2 q3 q4 rfl (by decide) h.row ⟨g, 0, none⟩ al2.length cap (askL al2) (by rw [askL_len]) (fun j u hu => hc g rfl j u hu) k.ones (by unfold maxLen; omega) (by omega) hBw hx hy ?_
    intro W v' r1 r2 r3
    exact kk W v' (h.app k hB r1 r2 r3 hO) r2
set_option maxRecDepth 20000 in
set_option maxHeartbeats 16000000 in
theorem poll_go (s : Bk) (ok : s.Ok) (l : List (Rq × Value)) (hsl : l.map (·.1) = s.l) (hl8 : l.length ≤ 90) (v : Value) {Bi : Nat} {w : World} {B b p c : Nat} {f : Nat → Nat} {O : Nat → Prop} (h : RamB w B b p f c O) (hA : AreasAt w) (hG : 2 < B) (hI : InAt w Bi O v l) (hc9 : c ≤ 300000000) (hn : (s.be && (liveV s.p && s.p.q0.rd)) = true) : Calls Tryz.prog 12 #[.agg (s.c v), .pointer (some ⟨b, 0, none⟩)] w fun e w' => ∃ v' av, e = .returned (.tuple #[.agg ((polV p f s).s.c v'), av]) ∧ ∃ l' O' al, l'.map (·.1) = (polV p f s).s.l ∧ RamB w' B b p (polV p f s).f (c + 262144) O' ∧ Went B O O' w w' ∧ InAt w' w.heap.size O' v' l' ∧ AsksAt w' w.heap.size O' av al ∧ al.map (·.1) = (polV p f s).a := by
  obtain ⟨R, hR⟩ : ∃ x, polV p f s = x := ⟨_, rfl⟩
  have HR0 : Hid (PolR p R ⟨f, s, []⟩ 0) := hide ⟨Nat.zero_le _, by rw [← hR]; unfold polV; rw [if_pos hn]⟩
  rw [hR]
  have HC : Hid (∀ W, Below w.heap.size w W → Calls Tryz.prog 29 #[.agg (s.c v)] W fun e w' => ∃ v', e = .returned (.agg (s.c v')) ∧ ∃ l', l'.map (·.1) = l.map (·.1) ∧ InAt w' W.heap.size (fun _ => False) v' l' ∧ Below W.heap.size W w') := hide (fun W hb => bclone_any s l (by omega) (fun x hx => (ok.l x.1 (by rw [← hsl]; exact List.mem_map_of_mem hx)).ll) (hI.bl hb))
  have HLv := hide (fun w => live_any s.p ok.p w)
  simp only [Bool.and_eq_true] at hn
  obtain ⟨hbe, hlb, hrd⟩ := hn
  rw [hlb] at HLv
  have HSL := hide hsl
  have HOK := hide ok
  have hll : l.length = s.l.length := by rw [← hsl, List.length_map]
  have HLL := hide hll
  obtain ⟨iA, qA1, qA2, qA3, qA4⟩ := info_a
  clear hI hsl hlb hR hll
  have hB0 := h.base
  have hGw : 2 < w.heap.size := Nat.lt_of_lt_of_le hG hB0
  have hA0 := hA
  clear hA
  go_enter Tryz.func12, Tryz.ntmps12
  go_upto_region 5 with (first | ((with_reducible refine bx_bk w.heap.size s v ?_ ?_ ?_); exact rfl; exact rfl; intro W hr hb hz) | ((with_reducible refine al_bk (w.heap.size + 1) ?_ ?_); exact hz.out; intro W hq hb' hz'; replace hr := hr.bl (hz.out ▸ hb'); replace hb := hb.trans (hb'.mono (by omega)); replace hz := hz'; have hM := h.bl hb; have hW := Went.of (O := O) hb hB0; have hA := hA0.bl hb; have hF := h.far 2; have hS : w.heap.size + 2 ≤ W.heap.size := Nat.le_of_eq hz.out.symm; have hB : B ≤ W.heap.size := Nat.le_trans hB0 hb.size; have HB := hide hb; clear hb hz hb' hz') | ((with_reducible refine ld_bk w.heap.size s _ hr ?_ ?_ ?_); exact rfl; exact rfl) | (go_at_call 29; (with_reducible refine (HC.out _ HB.out).mono ?_); rintro e W3 ⟨v1, rfl, l1, q1, hI1, hbc⟩; replace hI1 := hI1.lower hS; (have hv1o := own_one hI1.row); clear HB; replace hI1 := hI1.off (O' := O) (fun x k => Nat.lt_of_lt_of_le (h.lt x k) (by omega)); replace hM := hM.bl hbc; replace hW := hW.bl hbc hB; replace hA := hA.bl hbc; replace hB := Nat.le_trans hB hbc.size; replace hS := Nat.le_trans hS hbc.size; replace hr := hr.bl hbc; replace hq := hq.bl hbc; clear hbc) | ((with_reducible refine st_bk w.heap.size _ _ s v1 hv1o hr ?_ ?_ ?_); exact rfl; exact rfl; intro W hnew ho; replace hI1 := hI1.only ho (fun e => absurd (hI1.row.lt _ e).1 (by omega)) (fun x hx e => absurd ((hI1.own x hx).lt _ e).1 (by omega)); replace hq := hq.only ho (by omega); replace hM := hM.only ho (hF.at 0 (by omega)); replace hA := hA.onlyR ho (by omega); replace hW := hW.only ho (by omega) (by omega); replace hS := (show w.heap.size + 2 ≤ W.heap.size by rw [ho.size]; exact hS); replace hB := (show B ≤ W.heap.size by rw [ho.size]; exact hB); replace hr := hnew; clear hnew ho) | ((with_reducible refine ld_bbe w.heap.size s _ _ hr ?_ ?_ ?_); exact rfl; exact rfl; rw [hbe]) | ((with_reducible refine ld_bp w.heap.size s _ _ hr ?_ ?_ ?_); exact rfl; exact rfl) | ((with_reducible refine ld_brd w.heap.size s _ _ hr ?_ ?_ ?_); exact rfl; exact rfl; rw [hrd]) | (go_at_call 30; (with_reducible refine (HLv.out _).mono ?_); rintro e W ⟨rfl, hbc⟩; replace hI1 := hI1.bl hbc; replace hM := hM.bl hbc; replace hW := hW.bl hbc hB; replace hA := hA.bl hbc; replace hB := Nat.le_trans hB hbc.size; replace hS := Nat.le_trans hS hbc.size; replace hr := hr.bl hbc; replace hq := hq.bl hbc; clear hbc))
  go_wp2_with (fail)
  go_loopw [6, 7] (fun av iv wr => ∃ (x : X3) (t : Nat) (v2 : Value) (l2 : List (Rq × Value)) (al : List (Ak × Value)) (O1 : Nat → Prop), iv = .int .i64 (t : Nat) ∧ PolR p R x t ∧ RowAt wr w.heap.size (x.s.c v2) 53 ∧ RowAt wr (w.heap.size + 1) (zeroBk.c nilS) 53 ∧ RamB wr B b p x.f (c + 4 * t) O1 ∧ Went B O O1 w wr ∧ AreasAt wr ∧ InAt wr (w.heap.size + 2) O1 v2 l2 ∧ l2.map (·.1) = x.s.l ∧ AsksAt wr (w.heap.size + 2) O1 av al ∧ al.map (·.1) = x.a ∧ x.s.Ok ∧ x.s.l.length ≤ 90 ∧ x.a.length ≤ t ∧ FarB O1 w.heap.size 2 ∧ w.heap.size + 2 ≤ wr.heap.size) (fun av iv _ => 65536 - (intOf iv).toNat)
  case atStart => exact ⟨_, 0, v1, l1, [], O, rfl, HR0.out, hr, hq, hM, hW, hA, hI1, q1.trans HSL.out, ⟨World.ownsRow_nil _ _ _ _, (fun x hx => by cases hx), (fun g e => by cases e)⟩, rfl, HOK.out, by rw [← HLL.out]; exact hl8, Nat.le_refl _, hF, hS⟩
  case round =>
    clear hr hq hM hW hA hI1 hF hS hB HC HLv
    obtain ⟨x, t, v2, l2, al, O1, rfl, hP, hr, hq, hM, hW, hA, hI, hsl, hAs, hal, hok, hxl, hxa, hF, hS⟩ := hrel
    have hB : B ≤ wr.heap.size := by omega
    have hl2 : l2.length = x.s.l.length := by rw [← hsl, List.length_map]
    have HSL2 := hide hsl
    have HAL := hide hal
    have HPP := hide hP
    have htl := hP.le
    have hv2o := own_one hI.row
    obtain ⟨v2a, v2c, rfl, hvc1, hvc2⟩ := own_form hI.row
    obtain ⟨ava, avc, hav, hac1, hac2⟩ := own_form hAs.row
    subst hav
    by_cases hgo : t < 65536 ∧ l2.length < 8
    · have t1 : decide ((t : Int) < 65536) = true := by simp; omega
      have t2 : decide ((l2.length : Int) < 8) = true := by simp; omega
      have hx8 : x.s.l.length < 8 := by omega
      have HNx : Hid (∀ W O2, RamB W B b p x.f (c + 4 * t) O2 → AreasAt W → Calls Tryz.prog 31 #[.agg x.s.p.q0.r.cells, .pointer (some ⟨b, 0, none⟩)] W fun e w' => e = .returned (.tuple #[.agg (nextV p x.f x.s.p.q0.r).1.cells, .int .i64 ((nextV p x.f x.s.p.q0.r).2.1 : Nat), .bool (nextV p x.f x.s.p.q0.r).2.2.1, errR (nextV p x.f x.s.p.q0.r).2.2.2]) ∧ ∃ O', RamB w' B b p x.f (c + 4 * t) O' ∧ Went B O2 O' W w') := hide (fun W O2 hM hA => rnext_any x.s.p.q0.r hok.p.q0 hM hA hG)
      have HF0 := hide (fun w => failed_any x.s hok.p (.slice v2a l2.length v2c) rfl w)
      obtain ⟨hgo1, hgo2⟩ := hgo
      by_cases he : (nextV p x.f x.s.p.q0.r).2.2.2 = 0
      · by_cases hi : (nextV p x.f x.s.p.q0.r).2.2.1 = true
        · obtain ⟨hk1, hk2, hk3⟩ := next_took' he hi
          have hrok : (nextV p x.f x.s.p.q0.r).1.Ok := by rw [hk2]; exact takenR_ok hok.p.q0
          have hrch : chkR (nextV p x.f x.s.p.q0.r).1 = true := by rw [hk2]; exact chk_taken hk1
          rw [he, hi, show errR 0 = .nilIface from rfl] at HNx
          obtain ⟨hd1, hhd⟩ : ∃ q : Nat, (nextV p x.f x.s.p.q0.r).2.1 = q := ⟨_, rfl⟩
          obtain ⟨r1, hr1⟩ : ∃ q, (nextV p x.f x.s.p.q0.r).1 = q := ⟨_, rfl⟩
          have hhd2 : (hd1 : Int) ≤ 1000000 := by obtain ⟨nn, n1, n2, n3⟩ := chkR_sz hk1; rw [hhd, n1] at hk3; omega
          cases hlk : lookV p x.f r1 (hd1 : Nat) with
          | none =>
            have hst : stpV p x = (false, { x with s := x.s.fail }) := by unfold stpV; rw [if_pos he, if_pos hi, hr1, hhd, hlk]
            have hx := hP.stop hgo1 hx8 (by rw [hst])
            rw [hst] at hx
            have HX := hide hx
            rw [hr1, hhd] at HNx
            rw [hr1] at hrok hrch
            have HLk : Hid (∀ W O2, RamB W B b p x.f (c + 4 * t) O2 → AreasAt W → Calls Tryz.prog 33 #[.agg r1.cells, .pointer (some ⟨b, 0, none⟩), .int .i64 (hd1 : Nat)] W fun e w' => e = .returned (.tuple #[.agg (zeroCh.c nilS), .iface 129 (.int .i64 22)]) ∧ ∃ O', RamB w' B b p x.f (c + 4 * t) O' ∧ Went B O2 O' W w') := hide (fun W O2 hM hA => (look_all r1 hrok hrch (hd1 : Nat) hM hA hG).mono (fun e w' h => by
              obtain ⟨O', k1, k2, k3⟩ := h
              rcases k3 with ⟨_, k4⟩ | ⟨ps, v, k4, _⟩
              · exact ⟨k4, O', k1, k2⟩
              · rw [hlk] at k4; cases k4))
            obtain ⟨sb, hsb⟩ : ∃ q : Bk, x.s.fail = q := ⟨_, rfl⟩
            have HSB := hide hsb
            rw [hsb] at HF0
            clear hst hx hsb he hi hx8 hl2 hal hsl hP hk1 hk2 hk3 hr1 hhd hlk hrok hrch
            go_wp2_with (first | ((with_reducible refine ld_bin w.heap.size x.s _ _ hr ?_ ?_ ?_); exact rfl; exact rfl) | ((with_reducible refine ld_br w.heap.size x.s _ _ hr ?_ ?_ ?_); exact rfl; exact rfl) | (go_at_call 31; (with_reducible refine (HNx.out _ _ hM hA).mono ?_); rintro e W2 ⟨rfl, O2, hM2, hW2⟩; replace hr := hW2.row hr (hF.at 0 (by omega)); replace hq := hW2.row hq (hF.at 1 (by omega)); replace hA := hA.wentR hG hW2; replace hI := hI.went hW2; replace hAs := hAs.went hW2; replace hF := hF.went hW2 hS; replace hS := Nat.le_trans hS hW2.size; replace hW := hW.trans hW2; replace hB := Nat.le_trans hB hW2.size; replace hM := hM2; clear hM2 hW2; (obtain ⟨NX, hNX0⟩ : ∃ n, W2.heap.size = n := ⟨_, rfl⟩); (have hNX := hide hNX0); (have hx0 : w.heap.size + 2 ≤ NX := hNX0 ▸ hS); (have hxO : ¬ O2 NX := fun e => absurd (hM.lt NX e) (by omega)); clear hNX0) | ((with_reducible refine al_rp NX ?_ ?_); exact hNX.out; intro W hx hb' hz'; have hbc := hNX.out ▸ hb'; replace hr := hr.bl hbc; replace hq := hq.bl hbc; replace hM := hM.bl hbc; replace hW := hW.bl hbc hB; replace hA := hA.bl hbc; replace hI := hI.bl hbc; replace hAs := hAs.bl hbc; replace hS := Nat.le_trans hS hbc.size; replace hB := Nat.le_trans hB hbc.size; clear hb' hbc hz') | ((with_reducible refine st_rp NX _ r1 hx ?_ ?_ ?_); exact rfl; exact rfl; intro W hnew ho; replace hr := hr.only ho (by omega); replace hq := hq.only ho (by omega); replace hM := hM.only ho hxO; replace hA := hA.onlyR ho (by omega); replace hW := hW.only ho (by omega) (by omega); replace hI := hI.only ho (fun e => in_row_ne hI e hx (by decide)) (fun x hx2 e => absurd (own_ty (hI.own x hx2) e hx) (by decide)); replace hAs := hAs.only ho hx (by decide) (by decide); replace hS := (show w.heap.size + 2 ≤ W.heap.size by rw [ho.size]; exact hS); replace hB := (show B ≤ W.heap.size by rw [ho.size]; exact hB); replace hx := hnew; clear hnew ho) | ((with_reducible refine ld_rp NX r1 hx ?_ ?_ ?_); exact rfl; exact rfl) | (go_at_call 33; (with_reducible refine (HLk.out _ _ hM hA).mono ?_); rintro e W2 ⟨rfl, O3, hM2, hW2⟩; (have hxO3 := hW2.no hx.lt hxO); (replace hx := hW2.row hx hxO); replace hr := hW2.row hr (hF.at 0 (by omega)); replace hq := hW2.row hq (hF.at 1 (by omega)); replace hA := hA.wentR hG hW2; replace hI := hI.went hW2; replace hAs := hAs.went hW2; replace hF := hF.went hW2 hS; replace hS := Nat.le_trans hS hW2.size; replace hW := hW.trans hW2; replace hB := Nat.le_trans hB hW2.size; replace hM := hM2; clear hM2 hW2; (obtain ⟨NC, hNC0⟩ : ∃ n, W2.heap.size = n := ⟨_, rfl⟩); (have hNC := hide hNC0); (have hc0 : w.heap.size + 2 ≤ NC := hNC0 ▸ hS); (have hcx : NX ≠ NC := fun e => absurd hx.lt (by omega)); (have hcO : ¬ O3 NC := fun e => absurd (hM.lt NC e) (by omega)); clear hNC0) | ((with_reducible refine al_ch NC ?_ ?_); exact hNC.out; intro W hcr hb' hz'; have hbc := hNC.out ▸ hb'; replace hr := hr.bl hbc; replace hq := hq.bl hbc; replace hM := hM.bl hbc; replace hW := hW.bl hbc hB; replace hA := hA.bl hbc; replace hI := hI.bl hbc; replace hAs := hAs.bl hbc; replace hS := Nat.le_trans hS hbc.size; replace hB := Nat.le_trans hB hbc.size; replace hx := hx.bl hbc; clear hb' hbc hz') | ((with_reducible refine st_ch NC _ _ zeroCh nilS rfl hcr ?_ ?_ ?_); exact rfl; exact rfl; intro W hnew ho; replace hr := hr.only ho (by omega); replace hq := hq.only ho (by omega); replace hx := hx.only ho hcx; replace hM := hM.only ho hcO; replace hA := hA.onlyR ho (by omega); replace hW := hW.only ho (by omega) (by omega); replace hI := hI.only ho (fun e => in_row_ne hI e hcr (by decide)) (fun x hx2 e => absurd (own_ty (hI.own x hx2) e hcr) (by decide)); replace hAs := hAs.only ho hcr (by decide) (by decide); replace hS := (show w.heap.size + 2 ≤ W.heap.size by rw [ho.size]; exact hS); replace hB := (show B ≤ W.heap.size by rw [ho.size]; exact hB); replace hcr := hnew; clear hnew ho) | ((with_reducible refine ld_bk w.heap.size x.s _ hr ?_ ?_ ?_); exact rfl; exact rfl) | (go_at_call 32; (with_reducible refine (HF0.out _).mono ?_); rintro e W ⟨rfl, hbc⟩; replace hr := hr.bl hbc; replace hq := hq.bl hbc; replace hM := hM.bl hbc; replace hW := hW.bl hbc hB; replace hA := hA.bl hbc; replace hI := hI.bl hbc; replace hAs := hAs.bl hbc; replace hS := Nat.le_trans hS hbc.size; replace hB := Nat.le_trans hB hbc.size; clear hbc) | ((with_reducible refine st_bk (w.heap.size + 1) _ _ sb (.slice v2a l2.length v2c) rfl hq ?_ ?_ ?_); exact rfl; exact rfl; intro W hnew ho; replace hr := hr.only ho (by omega); replace hM := hM.only ho (hF.at 1 (by omega)); replace hA := hA.onlyR ho (by omega); replace hW := hW.only ho (by omega) (by omega); replace hI := hI.only ho (fun e => absurd (hI.row.lt _ e).1 (by omega)) (fun x hx e => absurd ((hI.own x hx).lt _ e).1 (by omega)); replace hAs := hAs.only ho hq (by decide) (by decide); replace hS := (show w.heap.size + 2 ≤ W.heap.size by rw [ho.size]; exact hS); replace hB := (show B ≤ W.heap.size by rw [ho.size]; exact hB); replace hq := hnew; clear hnew ho))
            refine bodyPost_ret (results_cell_u Tryz.results12 _ _ (w.heap.size + 1) _ _ _ rfl hq Tryz.underlying53 rfl size_bk) rfl ?_
            rw [← HX.out]
            exact ⟨_, _, by (try rw [HSB.out]); try rfl, l2, _, al, by (try rw [← HSB.out]); exact HSL2.out, hM.more (by omega), hW, hI.lower (by omega), hAs.lowerB (by omega), HAL.out⟩
          | some ch =>
            obtain ⟨ps, rfl, hC⟩ := look_ok hM.small (by rw [← hr1]; exact hrch) hlk
            have hst : stpV p x = (true, ⟨(srvV p x.f (x.s.ring r1) (chOf x.f (hd1 : Nat) ps)).1, (srvV p x.f (x.s.ring r1) (chOf x.f (hd1 : Nat) ps)).2.1, x.a ++ (srvV p x.f (x.s.ring r1) (chOf x.f (hd1 : Nat) ps)).2.2⟩) := by unfold stpV; rw [if_pos he, if_pos hi, hr1, hhd, hlk]
            have hP2 := hP.go hgo1 hx8 (by rw [hst])
            rw [hst] at hP2
            rw [hr1, hhd] at HNx
            rw [hr1] at hrok hrch
            have hRok : (x.s.ring r1).Ok := ⟨hok.p.ring hrok, hok.sc, hok.nx, hok.l, hok.ll⟩
            have hok2 := srvV_ok hRok hC (by omega) hhd2 (by show x.s.l.length ≤ 100; omega)
            have hln2 := srvV_len (p := p) (f := x.f) (s := x.s.ring r1) (ch := chOf x.f (hd1 : Nat) ps)
            have has2 := srvV_asks (p := p) (f := x.f) (s := x.s.ring r1) (ch := chOf x.f (hd1 : Nat) ps)
            have HLk : Hid (∀ W O2, RamB W B b p x.f (c + 4 * t) O2 → AreasAt W → Calls Tryz.prog 33 #[.agg r1.cells, .pointer (some ⟨b, 0, none⟩), .int .i64 (hd1 : Nat)] W fun e w' => ∃ cv, e = .returned (.tuple #[.agg ((chOf x.f (hd1 : Nat) ps).c cv), .nilIface]) ∧ ∃ O', RamB w' B b p x.f (c + 4 * t) O' ∧ Went B O2 O' W w' ∧ w'.ownsRow W.heap.size 103 3 cv ps.length (segL ps) ∧ ∀ g, cv.ownBlock = some g → ¬ O' g) := hide (fun W O2 hM hA => (look_all r1 hrok hrch (hd1 : Nat) hM hA hG).mono (fun e w' h => by
              obtain ⟨O', k1, k2, k3⟩ := h
              rcases k3 with ⟨k4, _⟩ | ⟨ps', v, k4, _, k5, k6, k7⟩
              · rw [hlk] at k4; cases k4
              · rw [hlk] at k4
                have e1 : ps' = ps := by show (chOf x.f (hd1 : Nat) ps').ps = (chOf x.f (hd1 : Nat) ps).ps; rw [Option.some.inj k4]
                subst e1
                exact ⟨v, k5, O', k1, k2, k6, k7⟩))
            have HSv : Hid (∀ W O2 Bl cv, RamB W B b p x.f (c + 4 * t) O2 → AreasAt W → InAt W (w.heap.size + 2) O2 (.slice v2a l2.length v2c) l2 → w.heap.size + 2 ≤ W.heap.size → W.ownsRow Bl 103 3 cv ps.length (segL ps) → (∀ g, cv.ownBlock = some g → ¬ O2 g) → Calls Tryz.prog 34 #[.agg ((x.s.ring r1).c (.slice v2a l2.length v2c)), .pointer (some ⟨b, 0, none⟩), .agg ((chOf x.f (hd1 : Nat) ps).c cv)] W fun e w' => ∃ v' av, e = .returned (.tuple #[.agg ((srvV p x.f (x.s.ring r1) (chOf x.f (hd1 : Nat) ps)).2.1.c v'), av]) ∧ ∃ l' O' al, l'.map (·.1) = (srvV p x.f (x.s.ring r1) (chOf x.f (hd1 : Nat) ps)).2.1.l ∧ RamB w' B b p (srvV p x.f (x.s.ring r1) (chOf x.f (hd1 : Nat) ps)).1 (c + 4 * t + 4) O' ∧ Went B (Or1 O2 (.slice v2a l2.length v2c)) (Or1 O' v') W w' ∧ InAt w' (w.heap.size + 2) O' v' l' ∧ (∀ g, v'.ownBlock = some g → Value.ownBlock (.slice v2a l2.length v2c) = some g ∨ W.heap.size ≤ g) ∧ AsksAt w' W.heap.size O' av al ∧ al.map (·.1) = (srvV p x.f (x.s.ring r1) (chOf x.f (hd1 : Nat) ps)).2.2) := hide (fun W O2 Bl cv hM hA hI hS hL hLn => serve_any (x.s.ring r1) hRok l2 HSL2.out _ (hd1 : Nat) ps cv hM hA hG hI hS (by omega) hL hLn hC (by omega) (by omega))
            obtain ⟨s3, hs3⟩ : ∃ q, (srvV p x.f (x.s.ring r1) (chOf x.f (hd1 : Nat) ps)).2.1 = q := ⟨_, rfl⟩
            obtain ⟨f3, hf3⟩ : ∃ q, (srvV p x.f (x.s.ring r1) (chOf x.f (hd1 : Nat) ps)).1 = q := ⟨_, rfl⟩
            obtain ⟨a3, ha3⟩ : ∃ q, (srvV p x.f (x.s.ring r1) (chOf x.f (hd1 : Nat) ps)).2.2 = q := ⟨_, rfl⟩
            rw [hs3, hf3, ha3] at HSv hP2
            rw [hs3] at hok2 hln2
            rw [ha3] at has2
            have hln3 : s3.l.length ≤ 90 := Nat.le_trans hln2 (by show x.s.l.length + 1 ≤ 90; omega)
            have HP2 := hide hP2
            have HOK2 := hide hok2
            have hall : al.length ≤ t := by rw [← List.length_map (f := (·.1)), HAL.out]; exact hxa
            obtain ⟨ch0, hch0⟩ : ∃ q, chOf x.f (hd1 : Nat) ps = q := ⟨_, rfl⟩
            rw [hch0] at HLk HSv
            obtain ⟨sr, hsr⟩ : ∃ q, x.s.ring r1 = q := ⟨_, rfl⟩
            have HSR := hide hsr
            rw [hsr] at HSv
            clear hP2 hok2 hln2 hst he hi hx8 hl2 hal hsl hP hk1 hk2 hk3 hr1 hhd hlk hrok hrch hs3 hf3 ha3 hch0 hsr hRok hC
            go_wp2_with (first | ((with_reducible refine ld_bin w.heap.size x.s _ _ hr ?_ ?_ ?_); exact rfl; exact rfl) | ((with_reducible refine ld_br w.heap.size x.s _ _ hr ?_ ?_ ?_); exact rfl; exact rfl) | (go_at_call 31; (with_reducible refine (HNx.out _ _ hM hA).mono ?_); rintro e W2 ⟨rfl, O2, hM2, hW2⟩; replace hr := hW2.row hr (hF.at 0 (by omega)); replace hq := hW2.row hq (hF.at 1 (by omega)); replace hA := hA.wentR hG hW2; replace hI := hI.went hW2; replace hAs := hAs.went hW2; replace hF := hF.went hW2 hS; replace hS := Nat.le_trans hS hW2.size; replace hW := hW.trans hW2; replace hB := Nat.le_trans hB hW2.size; replace hM := hM2; clear hM2 hW2; (obtain ⟨NX, hNX0⟩ : ∃ n, W2.heap.size = n := ⟨_, rfl⟩); (have hNX := hide hNX0); (have hx0 : w.heap.size + 2 ≤ NX := hNX0 ▸ hS); (have hxO : ¬ O2 NX := fun e => absurd (hM.lt NX e) (by omega)); clear hNX0) | ((with_reducible refine al_rp NX ?_ ?_); exact hNX.out; intro W hx hb' hz'; have hbc := hNX.out ▸ hb'; replace hr := hr.bl hbc; replace hq := hq.bl hbc; replace hM := hM.bl hbc; replace hW := hW.bl hbc hB; replace hA := hA.bl hbc; replace hI := hI.bl hbc; replace hAs := hAs.bl hbc; replace hS := Nat.le_trans hS hbc.size; replace hB := Nat.le_trans hB hbc.size; clear hb' hbc hz') | ((with_reducible refine st_rp NX _ r1 hx ?_ ?_ ?_); exact rfl; exact rfl; intro W hnew ho; replace hr := hr.only ho (by omega); replace hq := hq.only ho (by omega); replace hM := hM.only ho hxO; replace hA := hA.onlyR ho (by omega); replace hW := hW.only ho (by omega) (by omega); replace hI := hI.only ho (fun e => in_row_ne hI e hx (by decide)) (fun x hx2 e => absurd (own_ty (hI.own x hx2) e hx) (by decide)); replace hAs := hAs.only ho hx (by decide) (by decide); replace hS := (show w.heap.size + 2 ≤ W.heap.size by rw [ho.size]; exact hS); replace hB := (show B ≤ W.heap.size by rw [ho.size]; exact hB); replace hx := hnew; clear hnew ho) | ((with_reducible refine ld_rp NX r1 hx ?_ ?_ ?_); exact rfl; exact rfl) | (go_at_call 33; (with_reducible refine (HLk.out _ _ hM hA).mono ?_); rintro e W2 ⟨cv, rfl, O3, hM2, hW2, hL, hLn⟩; (have hxO3 := hW2.no hx.lt hxO); (replace hx := hW2.row hx hxO); replace hr := hW2.row hr (hF.at 0 (by omega)); replace hq := hW2.row hq (hF.at 1 (by omega)); replace hA := hA.wentR hG hW2; replace hI := hI.went hW2; replace hAs := hAs.went hW2; replace hF := hF.went hW2 hS; replace hS := Nat.le_trans hS hW2.size; replace hW := hW.trans hW2; replace hB := Nat.le_trans hB hW2.size; replace hM := hM2; clear hM2 hW2; (obtain ⟨NC, hNC0⟩ : ∃ n, W2.heap.size = n := ⟨_, rfl⟩); (have hNC := hide hNC0); (have hc0 : w.heap.size + 2 ≤ NC := hNC0 ▸ hS); (have hcx : NX ≠ NC := fun e => absurd hx.lt (by omega)); (have hcO : ¬ O3 NC := fun e => absurd (hM.lt NC e) (by omega)); clear hNC0; (have hcvo := own_one hL); (obtain ⟨cva, cvc, rfl, _, _⟩ := own_form hL)) | ((with_reducible refine al_ch NC ?_ ?_); exact hNC.out; intro W hcr hb' hz'; have hbc := hNC.out ▸ hb'; replace hr := hr.bl hbc; replace hq := hq.bl hbc; replace hM := hM.bl hbc; replace hW := hW.bl hbc hB; replace hA := hA.bl hbc; replace hI := hI.bl hbc; replace hAs := hAs.bl hbc; replace hS := Nat.le_trans hS hbc.size; replace hB := Nat.le_trans hB hbc.size; replace hx := hx.bl hbc; replace hL := own_bel hL hbc; clear hb' hbc hz') | ((with_reducible refine st_ch NC _ _ ch0 (.slice cva ps.length cvc) rfl hcr ?_ ?_ ?_); exact rfl; exact rfl; intro W hnew ho; replace hr := hr.only ho (by omega); replace hq := hq.only ho (by omega); replace hx := hx.only ho hcx; replace hM := hM.only ho hcO; replace hA := hA.onlyR ho (by omega); replace hW := hW.only ho (by omega) (by omega); replace hI := hI.only ho (fun e => in_row_ne hI e hcr (by decide)) (fun x hx2 e => absurd (own_ty (hI.own x hx2) e hcr) (by decide)); replace hAs := hAs.only ho hcr (by decide) (by decide); replace hL := own_only hL ho (fun e => absurd (own_ty hL e hcr) (by decide)); replace hS := (show w.heap.size + 2 ≤ W.heap.size by rw [ho.size]; exact hS); replace hB := (show B ≤ W.heap.size by rw [ho.size]; exact hB); replace hcr := hnew; clear hnew ho) | ((with_reducible refine st_br w.heap.size x.s _ r1 _ hr ?_ ?_ ?_); exact rfl; exact rfl; intro W hnew ho; rw [HSR.out] at hnew; replace hx := hx.only ho (by omega); replace hcr := hcr.only ho (by omega); replace hL := own_only hL ho (fun e => absurd (own_ty hL e hr) (by decide)); replace hq := hq.only ho (by omega); replace hM := hM.only ho (hF.at 0 (by omega)); replace hA := hA.onlyR ho (by omega); replace hW := hW.only ho (by omega) (by omega); replace hI := hI.only ho (fun e => absurd (hI.row.lt _ e).1 (by omega)) (fun x hx e => absurd ((hI.own x hx).lt _ e).1 (by omega)); replace hAs := hAs.only ho hr (by decide) (by decide); replace hS := (show w.heap.size + 2 ≤ W.heap.size by rw [ho.size]; exact hS); replace hB := (show B ≤ W.heap.size by rw [ho.size]; exact hB); replace hr := hnew; clear hnew ho) | ((with_reducible refine ld_bk w.heap.size sr _ hr ?_ ?_ ?_); exact rfl; exact rfl) | ((with_reducible refine ld_ch NC ch0 _ hcr ?_ ?_ ?_); exact rfl; exact rfl) | (go_at_call 34; (with_reducible refine (HSv.out _ _ _ _ hM hA hI hS hL hLn).mono ?_); rintro e W3 ⟨v3, av3, rfl, l3, O4, al3, q3, hM3, hW3, hI3, hv3, hAs3, qa3⟩; (have hvb : ∀ g, Value.ownBlock (.slice v2a l2.length v2c) = some g → w.heap.size + 2 ≤ g := fun g e => (hI.row.lt g e).1); replace hr := hW3.row hr (fun e => e.elim (hF.at 0 (by omega)) (fun k => absurd (hvb _ k) (by omega))); replace hq := hW3.row hq (fun e => e.elim (hF.at 1 (by omega)) (fun k => absurd (hvb _ k) (by omega))); replace hA := hA.wentR hG hW3; replace hAs := hAs.went1 hI hW3; (replace hF : FarB O4 w.heap.size 2 := fun y h1 h2 k => (hW3.own y (by omega) (.inl k)).elim (hF y h1 h2) (fun k => absurd (hvb _ k) (by omega))); (replace hAs3 := AsksAt.lowerB hAs3 hS); replace hS := Nat.le_trans hS hW3.size; replace hB := Nat.le_trans hB hW3.size; (replace hW := hW.then1 hW3 (fun g e => Nat.le_trans (by omega) (hvb g e))); clear hL hLn hx hcr hxO hM hI hW3; (have hM := hM3); (have hI := hI3); clear hM3 hI3; (have hv3o := own_one hI.row); (obtain ⟨v3a, v3c, rfl, _, _⟩ := own_form hI.row); (have hal3 : al3.length ≤ 1 := by rw [← List.length_map (f := (·.1)), qa3]; exact has2)) | ((with_reducible refine st_bk w.heap.size _ _ s3 (.slice v3a l3.length v3c) rfl hr ?_ ?_ ?_); exact rfl; exact rfl; intro W hnew ho; replace hAs3 := hAs3.only ho hr (by decide) (by decide); replace hq := hq.only ho (by omega); replace hM := hM.only ho (hF.at 0 (by omega)); replace hA := hA.onlyR ho (by omega); replace hW := hW.only ho (by omega) (by omega); replace hI := hI.only ho (fun e => absurd (hI.row.lt _ e).1 (by omega)) (fun x hx e => absurd ((hI.own x hx).lt _ e).1 (by omega)); replace hAs := hAs.only ho hr (by decide) (by decide); replace hS := (show w.heap.size + 2 ≤ W.heap.size by rw [ho.size]; exact hS); replace hB := (show B ≤ W.heap.size by rw [ho.size]; exact hB); replace hr := hnew; clear hnew ho) | ((with_reducible refine op_appa hAs hAs3 (Nat.le_refl _) hS hM.lt (by omega) (by omega) ?_ ?_ ?_); exact rfl; exact rfl; intro W5 av5 hAs5 hg5; (have hav : ∀ g, Value.ownBlock (.slice ava al.length avc) = some g → w.heap.size + 2 ≤ g := fun g e => (hAs.row.lt g e).1); replace hI := hI.grow hg5 hAs.rowT; replace hr := grow_row hr hg5 (fun e => absurd (hav _ e) (by omega)); replace hq := grow_row hq hg5 (fun e => absurd (hav _ e) (by omega)); replace hA := hA.growR hg5 (fun g e => by have := hav g e; omega); replace hM := grow_ram hM hg5 hAs.far; (replace hW := grow_went hW hg5 (fun g e => by have := hav g e; omega) (by omega)); replace hS := Nat.le_trans hS hg5.size; replace hB := Nat.le_trans hB hg5.size; clear hAs hAs3 hg5))
            (try simp only [Act.put])
            go_roundw
            case rel => exact ⟨⟨f3, s3, x.a ++ a3⟩, t + 1, _, l3, al ++ al3, O4, by go_num, HP2.out, hr, hq, hM, hW, hA, hI, q3, hAs5, by rw [List.map_append, HAL.out, qa3], HOK2.out, hln3, by rw [List.length_append]; omega, hF, hS⟩
            case measure => simp [intOf]; omega
        · have hi' : (nextV p x.f x.s.p.q0.r).2.2.1 = false := by simpa using hi
          have hst : stpV p x = (false, { x with s := { x.s with be := false } }) := by unfold stpV; rw [if_pos he, if_neg hi]
          have hx := hP.stop hgo1 hx8 (by rw [hst])
          rw [hst] at hx
          have HX := hide hx
          rw [he, hi', show errR 0 = .nilIface from rfl] at HNx
          generalize (nextV p x.f x.s.p.q0.r).1 = r1 at *
          generalize (nextV p x.f x.s.p.q0.r).2.1 = hd1 at *
          obtain ⟨sb, hsb⟩ : ∃ q : Bk, { x.s with be := false } = q := ⟨_, rfl⟩
          have HSB := hide hsb
          clear hst hx hsb he hi hi' hx8 hl2 hal hsl hP
          go_wp2_with (first | ((with_reducible refine ld_bin w.heap.size x.s _ _ hr ?_ ?_ ?_); exact rfl; exact rfl) | ((with_reducible refine ld_br w.heap.size x.s _ _ hr ?_ ?_ ?_); exact rfl; exact rfl) | (go_at_call 31; (with_reducible refine (HNx.out _ _ hM hA).mono ?_); rintro e W2 ⟨rfl, O2, hM2, hW2⟩; replace hr := hW2.row hr (hF.at 0 (by omega)); replace hq := hW2.row hq (hF.at 1 (by omega)); replace hA := hA.wentR hG hW2; replace hI := hI.went hW2; replace hAs := hAs.went hW2; replace hF := hF.went hW2 hS; replace hS := Nat.le_trans hS hW2.size; replace hW := hW.trans hW2; replace hB := Nat.le_trans hB hW2.size; replace hM := hM2; clear hM2 hW2; (obtain ⟨NX, hNX0⟩ : ∃ n, W2.heap.size = n := ⟨_, rfl⟩); (have hNX := hide hNX0); (have hx0 : w.heap.size + 2 ≤ NX := hNX0 ▸ hS); (have hxO : ¬ O2 NX := fun e => absurd (hM.lt NX e) (by omega)); clear hNX0) | ((with_reducible refine al_rp NX ?_ ?_); exact hNX.out; intro W hx hb' hz'; have hbc := hNX.out ▸ hb'; replace hr := hr.bl hbc; replace hq := hq.bl hbc; replace hM := hM.bl hbc; replace hW := hW.bl hbc hB; replace hA := hA.bl hbc; replace hI := hI.bl hbc; replace hAs := hAs.bl hbc; replace hS := Nat.le_trans hS hbc.size; replace hB := Nat.le_trans hB hbc.size; clear hb' hbc hz') | ((with_reducible refine st_rp NX _ r1 hx ?_ ?_ ?_); exact rfl; exact rfl; intro W hnew ho; replace hr := hr.only ho (by omega); replace hq := hq.only ho (by omega); replace hM := hM.only ho hxO; replace hA := hA.onlyR ho (by omega); replace hW := hW.only ho (by omega) (by omega); replace hI := hI.only ho (fun e => in_row_ne hI e hx (by decide)) (fun x hx2 e => absurd (own_ty (hI.own x hx2) e hx) (by decide)); replace hAs := hAs.only ho hx (by decide) (by decide); replace hS := (show w.heap.size + 2 ≤ W.heap.size by rw [ho.size]; exact hS); replace hB := (show B ≤ W.heap.size by rw [ho.size]; exact hB); replace hx := hnew; clear hnew ho) | ((with_reducible refine st_bbe w.heap.size x.s _ false _ hr ?_ ?_ ?_); exact rfl; exact rfl; intro W hnew ho; rw [HSB.out] at hnew; replace hq := hq.only ho (by omega); replace hM := hM.only ho (hF.at 0 (by omega)); replace hA := hA.onlyR ho (by omega); replace hW := hW.only ho (by omega) (by omega); replace hI := hI.only ho (fun e => absurd (hI.row.lt _ e).1 (by omega)) (fun x hx e => absurd ((hI.own x hx).lt _ e).1 (by omega)); replace hAs := hAs.only ho hr (by decide) (by decide); replace hS := (show w.heap.size + 2 ≤ W.heap.size by rw [ho.size]; exact hS); replace hB := (show B ≤ W.heap.size by rw [ho.size]; exact hB); replace hr := hnew; clear hnew ho) | ((with_reducible refine ld_bk w.heap.size sb _ hr ?_ ?_ ?_); exact rfl; exact rfl) | ((with_reducible refine st_bk (w.heap.size + 1) _ _ sb (.slice v2a l2.length v2c) rfl hq ?_ ?_ ?_); exact rfl; exact rfl; intro W hnew ho; replace hr := hr.only ho (by omega); replace hM := hM.only ho (hF.at 1 (by omega)); replace hA := hA.onlyR ho (by omega); replace hW := hW.only ho (by omega) (by omega); replace hI := hI.only ho (fun e => absurd (hI.row.lt _ e).1 (by omega)) (fun x hx e => absurd ((hI.own x hx).lt _ e).1 (by omega)); replace hAs := hAs.only ho hq (by decide) (by decide); replace hS := (show w.heap.size + 2 ≤ W.heap.size by rw [ho.size]; exact hS); replace hB := (show B ≤ W.heap.size by rw [ho.size]; exact hB); replace hq := hnew; clear hnew ho))
          refine bodyPost_ret (results_cell_u Tryz.results12 _ _ (w.heap.size + 1) _ _ _ rfl hq Tryz.underlying53 rfl size_bk) rfl ?_
          rw [← HX.out]
          exact ⟨_, _, by (try rw [HSB.out]); try rfl, l2, _, al, by (try rw [← HSB.out]); exact HSL2.out, hM.more (by omega), hW, hI.lower (by omega), hAs.lowerB (by omega), HAL.out⟩
      · have hst : stpV p x = (false, { x with s := x.s.fail }) := by unfold stpV; rw [if_neg he]
        have hx := hP.stop hgo1 hx8 (by rw [hst])
        rw [hst] at hx
        have HX := hide hx
        have hE : ∃ z : Int, errR (nextV p x.f x.s.p.q0.r).2.2.2 = .iface 129 (.int .i64 z) := ⟨_, by unfold errR; rw [if_neg he]⟩
        obtain ⟨z, hz⟩ := hE
        rw [hz] at HNx
        generalize (nextV p x.f x.s.p.q0.r).1 = r1 at *
        generalize (nextV p x.f x.s.p.q0.r).2.1 = hd1 at *
        generalize (nextV p x.f x.s.p.q0.r).2.2.1 = is1 at *
        obtain ⟨sb, hsb⟩ : ∃ q : Bk, x.s.fail = q := ⟨_, rfl⟩
        have HSB := hide hsb
        rw [hsb] at HF0
        clear hst hx hsb he hx8 hl2 hal hsl hP hz
        go_wp2_with (first | ((with_reducible refine ld_bin w.heap.size x.s _ _ hr ?_ ?_ ?_); exact rfl; exact rfl) | ((with_reducible refine ld_br w.heap.size x.s _ _ hr ?_ ?_ ?_); exact rfl; exact rfl) | (go_at_call 31; (with_reducible refine (HNx.out _ _ hM hA).mono ?_); rintro e W2 ⟨rfl, O2, hM2, hW2⟩; replace hr := hW2.row hr (hF.at 0 (by omega)); replace hq := hW2.row hq (hF.at 1 (by omega)); replace hA := hA.wentR hG hW2; replace hI := hI.went hW2; replace hAs := hAs.went hW2; replace hF := hF.went hW2 hS; replace hS := Nat.le_trans hS hW2.size; replace hW := hW.trans hW2; replace hB := Nat.le_trans hB hW2.size; replace hM := hM2; clear hM2 hW2; (obtain ⟨NX, hNX0⟩ : ∃ n, W2.heap.size = n := ⟨_, rfl⟩); (have hNX := hide hNX0); (have hx0 : w.heap.size + 2 ≤ NX := hNX0 ▸ hS); (have hxO : ¬ O2 NX := fun e => absurd (hM.lt NX e) (by omega)); clear hNX0) | ((with_reducible refine al_rp NX ?_ ?_); exact hNX.out; intro W hx hb' hz'; have hbc := hNX.out ▸ hb'; replace hr := hr.bl hbc; replace hq := hq.bl hbc; replace hM := hM.bl hbc; replace hW := hW.bl hbc hB; replace hA := hA.bl hbc; replace hI := hI.bl hbc; replace hAs := hAs.bl hbc; replace hS := Nat.le_trans hS hbc.size; replace hB := Nat.le_trans hB hbc.size; clear hb' hbc hz') | ((with_reducible refine st_rp NX _ r1 hx ?_ ?_ ?_); exact rfl; exact rfl; intro W hnew ho; replace hr := hr.only ho (by omega); replace hq := hq.only ho (by omega); replace hM := hM.only ho hxO; replace hA := hA.onlyR ho (by omega); replace hW := hW.only ho (by omega) (by omega); replace hI := hI.only ho (fun e => in_row_ne hI e hx (by decide)) (fun x hx2 e => absurd (own_ty (hI.own x hx2) e hx) (by decide)); replace hAs := hAs.only ho hx (by decide) (by decide); replace hS := (show w.heap.size + 2 ≤ W.heap.size by rw [ho.size]; exact hS); replace hB := (show B ≤ W.heap.size by rw [ho.size]; exact hB); replace hx := hnew; clear hnew ho) | ((with_reducible refine ld_bk w.heap.size x.s _ hr ?_ ?_ ?_); exact rfl; exact rfl) | (go_at_call 32; (with_reducible refine (HF0.out _).mono ?_); rintro e W ⟨rfl, hbc⟩; replace hr := hr.bl hbc; replace hq := hq.bl hbc; replace hM := hM.bl hbc; replace hW := hW.bl hbc hB; replace hA := hA.bl hbc; replace hI := hI.bl hbc; replace hAs := hAs.bl hbc; replace hS := Nat.le_trans hS hbc.size; replace hB := Nat.le_trans hB hbc.size; clear hbc) | ((with_reducible refine st_bk (w.heap.size + 1) _ _ sb (.slice v2a l2.length v2c) rfl hq ?_ ?_ ?_); exact rfl; exact rfl; intro W hnew ho; replace hr := hr.only ho (by omega); replace hM := hM.only ho (hF.at 1 (by omega)); replace hA := hA.onlyR ho (by omega); replace hW := hW.only ho (by omega) (by omega); replace hI := hI.only ho (fun e => absurd (hI.row.lt _ e).1 (by omega)) (fun x hx e => absurd ((hI.own x hx).lt _ e).1 (by omega)); replace hAs := hAs.only ho hq (by decide) (by decide); replace hS := (show w.heap.size + 2 ≤ W.heap.size by rw [ho.size]; exact hS); replace hB := (show B ≤ W.heap.size by rw [ho.size]; exact hB); replace hq := hnew; clear hnew ho))
        refine bodyPost_ret (results_cell_u Tryz.results12 _ _ (w.heap.size + 1) _ _ _ rfl hq Tryz.underlying53 rfl size_bk) rfl ?_
        rw [← HX.out]
        exact ⟨_, _, by (try rw [HSB.out]); try rfl, l2, _, al, by (try rw [← HSB.out]); exact HSL2.out, hM.more (by omega), hW, hI.lower (by omega), hAs.lowerB (by omega), HAL.out⟩
    · have hx := hP.done (fun e => hgo ⟨e.1, by omega⟩)
      subst hx
      clear hal hsl hP
      by_cases h1 : t < 65536
      · have t1 : decide ((t : Int) < 65536) = true := by simp; omega
        have t2 : decide ((l2.length : Int) < 8) = false := by simp; omega
        clear hl2 hgo
        go_wp2_with (first | ((with_reducible refine ld_bin w.heap.size x.s _ _ hr ?_ ?_ ?_); exact rfl; exact rfl) | ((with_reducible refine ld_bk w.heap.size x.s _ hr ?_ ?_ ?_); exact rfl; exact rfl) | ((with_reducible refine st_bk (w.heap.size + 1) _ _ x.s (.slice v2a l2.length v2c) rfl hq ?_ ?_ ?_); exact rfl; exact rfl; intro W hnew ho; replace hr := hr.only ho (by omega); replace hM := hM.only ho (hF.at 1 (by omega)); replace hA := hA.onlyR ho (by omega); replace hW := hW.only ho (by omega) (by omega); replace hI := hI.only ho (fun e => absurd (hI.row.lt _ e).1 (by omega)) (fun x hx e => absurd ((hI.own x hx).lt _ e).1 (by omega)); replace hAs := hAs.only ho hq (by decide) (by decide); replace hS := (show w.heap.size + 2 ≤ W.heap.size by rw [ho.size]; exact hS); replace hB := (show B ≤ W.heap.size by rw [ho.size]; exact hB); replace hq := hnew; clear hnew ho))
        refine bodyPost_ret (results_cell_u Tryz.results12 _ _ (w.heap.size + 1) _ _ _ rfl hq Tryz.underlying53 rfl size_bk) rfl ?_
        exact ⟨_, _, rfl, l2, _, al, HSL2.out, hM.more (by omega), hW, hI.lower (by omega), hAs.lowerB (by omega), HAL.out⟩
      · have t1 : decide ((t : Int) < 65536) = false := by simp; omega
        clear hl2 hgo
        go_wp2_with (first | ((with_reducible refine ld_bin w.heap.size x.s _ _ hr ?_ ?_ ?_); exact rfl; exact rfl) | ((with_reducible refine ld_bk w.heap.size x.s _ hr ?_ ?_ ?_); exact rfl; exact rfl) | ((with_reducible refine st_bk (w.heap.size + 1) _ _ x.s (.slice v2a l2.length v2c) rfl hq ?_ ?_ ?_); exact rfl; exact rfl; intro W hnew ho; replace hr := hr.only ho (by omega); replace hM := hM.only ho (hF.at 1 (by omega)); replace hA := hA.onlyR ho (by omega); replace hW := hW.only ho (by omega) (by omega); replace hI := hI.only ho (fun e => absurd (hI.row.lt _ e).1 (by omega)) (fun x hx e => absurd ((hI.own x hx).lt _ e).1 (by omega)); replace hAs := hAs.only ho hq (by decide) (by decide); replace hS := (show w.heap.size + 2 ≤ W.heap.size by rw [ho.size]; exact hS); replace hB := (show B ≤ W.heap.size by rw [ho.size]; exact hB); replace hq := hnew; clear hnew ho))
        refine bodyPost_ret (results_cell_u Tryz.results12 _ _ (w.heap.size + 1) _ _ _ rfl hq Tryz.underlying53 rfl size_bk) rfl ?_
        exact ⟨_, _, rfl, l2, _, al, HSL2.out, hM.more (by omega), hW, hI.lower (by omega), hAs.lowerB (by omega), HAL.out⟩
end Go.Proofs.YtaaiockiojejeaaGreatDoor
namespace Go.Proofs.YtaaiockiojejeaaGreatDoor
open Go.RowKit
set_option linter.unusedVariables false
set_option linter.unusedSimpArgs false

theorem poll_any (s : Bk) (ok : s.Ok) (l : List (Rq × Value)) (hsl : l.map (·.1) = s.l) (hl8 : l.length ≤ 90) (v : Value) {Bi : Nat} {w : World} {B b p c : Nat} {f : Nat → Nat} {O : Nat → Prop} (h : RamB w B b p f c O) (hA : AreasAt w) (hG : 2 < B) (hI : InAt w Bi O v l) (hc9 : c ≤ 300000000) : Calls Tryz.prog 12 #[.agg (s.c v), .pointer (some ⟨b, 0, none⟩)] w fun e w' => ∃ v' av, e = .returned (.tuple #[.agg ((polV p f s).s.c v'), av]) ∧ ∃ l' O' al, l'.map (·.1) = (polV p f s).s.l ∧ RamB w' B b p (polV p f s).f (c + 262144) O' ∧ Went B O O' w w' ∧ InAt w' w.heap.size O' v' l' ∧ AsksAt w' w.heap.size O' av al ∧ al.map (·.1) = (polV p f s).a := by
  cases hn : (s.be && (liveV s.p && s.p.q0.rd)) with
  | false => exact poll_no s ok l hsl hl8 v h hA hG hI hc9 hn
  | true => exact poll_go s ok l hsl hl8 v h hA hG hI hc9 hn
end Go.Proofs.YtaaiockiojejeaaGreatDoor
