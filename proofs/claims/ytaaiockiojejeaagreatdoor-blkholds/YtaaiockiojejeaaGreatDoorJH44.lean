/-
  What stands in BlkHolds' round behind Poll, and what Finish leaves of it.
-/
import Derived.Test.YtaaiockiojejeaaGreatDoorJH41
import Derived.Test.YtaaiockiojejeaaGreatDoorJH43
import Derived.Test.YtaaiockiojejeaaGreatDoorJH42
namespace Go.Proofs.YtaaiockiojejeaaGreatDoor
open Go.RowKit
set_option linter.unusedVariables false
set_option linter.unusedSimpArgs false

theorem idx_at {l : List Rq} {k : Nat} {q : Rq} (hn : (l.map (·.id)).Nodup) (hk : l[k]? = some q) : idxQ l q.id = (k : Nat) := by
  have hm : q ∈ l := List.mem_of_getElem? hk
  have h0 : 0 ≤ idxQ l q.id := Int.not_lt.1 (fun e => idxQ_neg.1 e q hm rfl)
  obtain ⟨k', q', e, h1, h2⟩ := idxQ_pos h0
  rw [e]
  have e1 : (l.map (·.id))[k']? = some q.id := by rw [List.getElem?_map, h1]; simp [h2]
  have e2 : (l.map (·.id))[k]? = some q.id := by rw [List.getElem?_map, hk]; rfl
  have hl := (List.getElem?_eq_some_iff.1 e1).1
  have := (List.getElem?_inj hl hn).1 (e1.trans e2.symm)
  rw [this]
set_option maxRecDepth 20000 in
set_option maxHeartbeats 4000000 in
theorem bcheck_good (s : Bk) (hs : Good s) (l : List (Rq × Value)) (hsl : l.map (·.1) = s.l) (v : Value) {w : World} {B : Nat} {O : Nat → Prop} (hI : InAt w B O v l) (hO : OffAt w) :
    Calls Tryz.prog 21 #[.agg (s.c v), .int .i64 2] w fun e w' => e = .returned .nilIface ∧ Below w.heap.size w w' := by
  have hlen : l.length ≤ 8 := by rw [← List.length_map (f := (·.1)), hsl]; exact hs.len
  have hst := hs.p.st
  have hsc := hs.sc
  have HV : Hid (∀ W, OffAt W → Calls Tryz.prog 54 #[.agg s.p.cells] W fun e w' => e = .returned .nilIface ∧ Below W.heap.size W w') := hide (fun W hO => by
    have h := vcheck_any s.p hs.p.ok W hO
    rw [if_pos hs.p.may] at h
    exact h)
  have HQ : Hid (∀ k q qv, l[k]? = some (q, qv) → QGood q ∧ q.id ≠ s.nx) := hide (fun k q qv hk => by
    have hm : q ∈ s.l := by rw [← hsl]; exact List.mem_map.2 ⟨_, List.mem_of_getElem? hk, rfl⟩
    exact ⟨hs.qs q hm, hs.fre q hm⟩)
  have HO := hide hO
  obtain ⟨va, vc, rfl, hc1, hc2⟩ := own_form hI.row
  obtain ⟨n, hn⟩ : ∃ n, l.length = n := ⟨_, rfl⟩
  have HN := hide hn
  have HF : Hid (∀ W (k : Nat) q qv, l[k]? = some (q, qv) → W.ownsRow B 102 6 (.slice va n vc) n (reqL l) → Calls Tryz.prog 47 #[.slice va n vc, .int .u32 (q.id : Nat)] W fun e w' => e = .returned (.int .i64 (k : Nat)) ∧ Below W.heap.size W w') := hide (fun W k q qv hk hL => by
    subst hn
    have h := bfind_any l (by omega) q.id hL
    rwa [hsl, idx_at hs.nod (show s.l[k]? = some q by rw [← hsl, List.getElem?_map, hk]; rfl)] at h)
  have HI2 : Hid (w.ownsRow B 102 6 (.slice va n vc) n (reqL l) ∧ ∀ x ∈ l, w.ownsRow B 103 3 x.2 x.1.l.length (segL x.1.l)) := hide ⟨by rw [← hn]; exact hI.row, hI.own⟩
  rw [hn] at hlen hc1 ⊢
  have d8 : decide (8 < (n : Int)) = false := by simp; omega
  clear hs hsl hI hO hn
  by_cases hn0 : n = 0
  · have t0 : decide (0 < (n : Int)) = false := by simp; omega
    have t0n : decide (0 < n) = false := by simp; omega
    go_enter Tryz.func21, Tryz.ntmps21
    go_wp2_with (first | ((with_reducible refine bx_bk w.heap.size s (.slice va n vc) ?_ ?_ ?_); exact rfl; exact rfl; intro W hr hb hz; clear hz) | ((with_reducible refine ld_bp w.heap.size s _ _ hr ?_ ?_ ?_); exact rfl; exact rfl) | ((with_reducible refine ld_bin w.heap.size s _ _ hr ?_ ?_ ?_); exact rfl; exact rfl) | ((with_reducible refine ld_bst w.heap.size s _ _ hr ?_ ?_ ?_); exact rfl; exact rfl) | (go_at_call 54; (with_reducible refine (HV.out _ (HO.out.bl hb)).mono ?_); rintro e W2 ⟨rfl, hbc⟩; replace hr := hr.bl hbc; replace hb := hb.trans (hbc.mono hb.size); clear hbc))
    go_loopw [36] (fun iv wr => ∃ k : Nat, k ≤ n ∧ iv = .int .i64 (k : Nat) ∧ RowAt wr w.heap.size (s.c (.slice va n vc)) 53 ∧ Below w.heap.size w wr) (fun iv _ => n - (intOf iv).toNat)
    case atStart => exact ⟨0, Nat.zero_le _, rfl, hr, hb⟩
    case round =>
      clear hr hb
      obtain ⟨k, hk, rfl, hr, hb⟩ := hrel
      by_cases hlt : k < n
      · omega
      · obtain rfl : k = n := by omega
        go_wp2
        go_ret
        exact ⟨rfl, hb⟩
  · have t0 : 0 < (n : Int) := by omega
    have t0n : 0 < n := by omega
    have tst : (((s.p.st : Nat) : Int) == 0) = false := by simp; omega
    have tstn : (s.p.st == 0) = false := by simp; omega
    go_enter Tryz.func21, Tryz.ntmps21
    go_wp2_with (first | ((with_reducible refine bx_bk w.heap.size s (.slice va n vc) ?_ ?_ ?_); exact rfl; exact rfl; intro W hr hb hz; clear hz) | ((with_reducible refine ld_bp w.heap.size s _ _ hr ?_ ?_ ?_); exact rfl; exact rfl) | ((with_reducible refine ld_bin w.heap.size s _ _ hr ?_ ?_ ?_); exact rfl; exact rfl) | ((with_reducible refine ld_bst w.heap.size s _ _ hr ?_ ?_ ?_); exact rfl; exact rfl) | (go_at_call 54; (with_reducible refine (HV.out _ (HO.out.bl hb)).mono ?_); rintro e W2 ⟨rfl, hbc⟩; replace hr := hr.bl hbc; replace hb := hb.trans (hbc.mono hb.size); clear hbc))
    go_loopw [36] (fun iv wr => ∃ k : Nat, k ≤ n ∧ iv = .int .i64 (k : Nat) ∧ RowAt wr w.heap.size (s.c (.slice va n vc)) 53 ∧ Below w.heap.size w wr) (fun iv _ => n - (intOf iv).toNat)
    case atStart => exact ⟨0, Nat.zero_le _, rfl, hr, hb⟩
    case round =>
      clear hr hb
      obtain ⟨k, hk, rfl, hr, hb⟩ := hrel
      by_cases hlt : k < n
      · have hIr := own_bel HI2.out.1 hb
        obtain ⟨gb, cap', cur, hve, _, _, _, hLr, _, htk⟩ := own_row hIr (show 0 < n by omega)
        obtain ⟨rfl, rfl⟩ : va = some ⟨gb, 0, none⟩ ∧ vc = cap' := by injection hve with e1 e2 e3; exact ⟨e1, e3⟩
        obtain ⟨⟨q, qv⟩, hq⟩ : ∃ x, l[k]? = some x := ⟨_, List.getElem?_eq_getElem (by rw [HN.out]; exact hlt)⟩
        have hmid := mid_r htk hq
        obtain ⟨hqg, hqn⟩ := HQ.out k q qv hq
        have HL := hide hIr
        have HQL := hide (own_bel (HI2.out.2 _ (List.mem_of_getElem? hq)) hb)
        simp only at HQL
        have HFk : Hid (∀ W, W.ownsRow B 102 6 (.slice (some ⟨gb, 0, none⟩) n vc) n (reqL l) → Calls Tryz.prog 47 #[.slice (some ⟨gb, 0, none⟩) n vc, .int .u32 (q.id : Nat)] W fun e w' => e = .returned (.int .i64 (k : Nat)) ∧ Below W.heap.size W w') := hide (fun W hL => HF.out W k q qv hq hL)
        have HMk : Hid (∀ W, W.ownsRow B 103 3 qv q.l.length (segL q.l) → Calls Tryz.prog 55 #[.agg (q.c qv), .int .u32 100, .int .i64 2] W fun e w' => e = .returned (.bool true) ∧ Below W.heap.size W w') := hide (fun W hL => maybe_good q hqg qv hL)
        have hqo : qv.oneCell' = true := own_one HQL.out
        have l1 : (k : Int) < (n : Int) := by omega
        have tid : (((q.id : Nat) : Int) == ((s.nx : Nat) : Int)) = false := by simp; omega
        have tidn : (q.id == s.nx) = false := by simp; omega
        obtain ⟨NQ, hNQ0⟩ : ∃ x, wr.heap.size = x := ⟨_, rfl⟩
        have hNQ := hide hNQ0
        have hnq : w.heap.size < NQ := hNQ0 ▸ hr.lt
        have hgq : gb < NQ := hNQ0 ▸ hLr.lt
        have hlb : ∀ g, (Value.slice (some ⟨gb, 0, none⟩) n vc).ownBlock = some g → g < NQ := fun g e => hNQ0 ▸ (HL.out.lt g e).2
        have hvb : ∀ g, qv.ownBlock = some g → g < NQ := fun g e => hNQ0 ▸ (HQL.out.lt g e).2
        clear hNQ0 hIr htk hve hq
        go_wp2_with (first | ((with_reducible refine ld_rm gb (k * 6) q qv cur _ hLr hmid ?_ ?_); exact rfl) | ((with_reducible refine al_rq NQ ?_ ?_); exact hNQ.out; intro W hn hb' hz; have hbc := hNQ.out ▸ hb'; replace hr := hr.bl hbc; (have hL := own_bel HL.out hbc); (have hQ := own_bel HQL.out hbc); replace hb := hb.trans (hbc.mono hb.size); clear hb' hbc hz hLr) | ((with_reducible refine st_rq NQ _ _ q qv hqo hn ?_ ?_ ?_); exact rfl; exact rfl; intro W hnew ho; replace hr := hr.only ho (by omega); replace hL := own_only hL ho (fun e => absurd (hlb _ e) (by omega)); replace hQ := own_only hQ ho (fun e => absurd (hvb _ e) (by omega)); replace hb := ho.bel _ _ (by omega) hb; replace hn := hnew; clear hnew ho) | ((with_reducible refine ld_qid NQ q _ _ hn ?_ ?_ ?_); exact rfl; exact rfl) | ((with_reducible refine ld_rq NQ q qv hn ?_ ?_ ?_); exact rfl; exact rfl) | ((with_reducible refine ld_bnx w.heap.size s _ _ hr ?_ ?_ ?_); exact rfl; exact rfl) | ((with_reducible refine ld_bin w.heap.size s _ _ hr ?_ ?_ ?_); exact rfl; exact rfl) | ((with_reducible refine ld_bsc w.heap.size s _ _ hr ?_ ?_ ?_); exact rfl; exact rfl; rw [hsc]) | (go_at_call 47; (with_reducible refine (HFk.out _ hL).mono ?_); rintro e W2 ⟨rfl, hbc⟩; replace hr := hr.bl hbc; replace hn := hn.bl hbc; replace hL := own_bel hL hbc; replace hQ := own_bel hQ hbc; replace hb := hb.trans (hbc.mono hb.size); clear hbc) | (go_at_call 55; (with_reducible refine (HMk.out _ hQ).mono ?_); rintro e W2 ⟨rfl, hbc⟩; replace hr := hr.bl hbc; replace hn := hn.bl hbc; replace hL := own_bel hL hbc; replace hQ := own_bel hQ hbc; replace hb := hb.trans (hbc.mono hb.size); clear hbc))
        go_roundw
        case rel => exact ⟨k + 1, hlt, by go_num, hr, hb⟩
        case measure => simp [intOf]; omega
      · obtain rfl : k = n := by omega
        go_wp2
        go_ret
        exact ⟨rfl, hb⟩
end Go.Proofs.YtaaiockiojejeaaGreatDoor
namespace Go.Proofs.YtaaiockiojejeaaGreatDoor
open Go.RowKit
set_option linter.unusedVariables false
set_option linter.unusedSimpArgs false

def u32V (l : List Nat) : List Value := l.map fun x => .int .u32 (x : Nat)
theorem u32V_app (l m : List Nat) : u32V (l ++ m) = u32V l ++ u32V m := by simp [u32V]
theorem u32V_one (l : List Nat) : ∀ u ∈ u32V l, u.oneCell' = true := by
  intro u hu
  obtain ⟨x, _, rfl⟩ := List.mem_map.1 hu
  rfl
theorem info_u : ∃ i, Tryz.prog.info? 22 = some i ∧ i.zero = some (.int .u32 0) ∧ i.size = 1 ∧ i.bytes = 4 := info_parts (P := Tryz.prog) (e := 22) (z := .int .u32 0) (size := 1) (bytes := 4) (by kernel_rfl)
variable {ops : Array Oper} {rest : List Oper} {dst : Option Tmp} {ty : TypeId} {pos : String} {after : Array Edge} {a : Act} {w : World} {Q : Exit → Act → World → Prop} {x y : Operand} {B : Nat} {v : Value}
theorem bs_u (N : Nat) (hN : w.heap.size = N) (z : Nat) (hx : a.eval x = .int .u32 (z : Nat))
    (k : ∀ W, RowAt W N #[.int .u32 (z : Nat)] 22 → Below N w W → Hid (W.heap.size = N + 1) → wpList Tryz.prog ops Q rest (a.put dst (.slice (some ⟨N, 0, none⟩) 1 1)) W) :
    wpList Tryz.prog ops Q (⟨dst, .buildSlice 79 1 #[(0, x)], ty, pos, after, none⟩ :: rest) a w :=
  op_bsn 79 22 1 Tryz.underlying79 #[.int .u32 (z : Nat)] N hN [(0, .int .u32 (z : Nat))] (by simp [hx]) ⟨by kernel_rfl⟩ k
theorem app_u (l : List Nat) (z n : Nat) (hn : l.length = n) (hown : w.ownsRow B 22 1 v n (u32V l)) (s : Nat) (hs : RowAt w s #[.int .u32 (z : Nat)] 22) (hl : n ≤ 1000000) (hB : B ≤ w.heap.size) (hx : a.eval x = v) (hy : a.eval y = .slice (some ⟨s, 0, none⟩) 1 1)
    (k : ∀ W v', W.ownsRow B 22 1 v' (n + 1) (u32V (l ++ [z])) → w.grownBy W v.ownBlock → (v'.ownBlock = v.ownBlock ∨ v'.ownBlock = some w.heap.size) → wpList Tryz.prog ops Q rest (a.put dst v') W) :
    wpList Tryz.prog ops Q (⟨dst, .call { callee := .builtin .append, args := #[x, y], argTypes := #[79, 79] }, 79, pos, after, none⟩ :: rest) a w := by
  obtain ⟨i, h1, h2, h3, h4⟩ := info_u
  refine op_appl 79 22 i _ 1 4 Tryz.underlying79 h1 h2 h3 h4 rfl (by decide) hown ⟨s, 0, none⟩ 1 1 (u32V [z]) rfl ?_ (u32V_one _) (by unfold maxLen; omega) (by omega) hB hx hy ?_
  · intro j u hu
    have hj0 : j < 1 := by have := (List.getElem?_eq_some_iff.1 hu).1; simpa [u32V] using this
    (obtain rfl : j = 0 := by omega)
    rw [Addr.add_lit, Nat.zero_add, hs.cell 0]
    simpa [u32V] using hu
  · intro W v' q1 q2 q3
    rw [← u32V_app] at q1
    exact k W v' q1 q2 q3
theorem cell_u {W : World} {B n : Nat} {v : Value} {l : List Nat} (h : W.ownsRow B 22 1 v n (u32V l)) (hl : l.length = n) (j : Nat) (hj : j < n) : ∃ g cap, v = .slice (some ⟨g, 0, none⟩) n cap ∧ n ≤ cap ∧ ∀ i (hi : i < l.length), W.cell? ⟨g, i, none⟩ = some (.int .u32 (l[i] : Nat)) := by
  obtain ⟨g, cap, e, h1, h2, h3, h4, h5⟩ := own_pos h (by omega)
  exact ⟨g, cap, e, h1, fun i hi => h5 i _ (by simp [u32V, hi])⟩
theorem asks_at {W : World} {B : Nat} {O : Nat → Prop} {av : Value} {al : List (Ak × Value)} (h : AsksAt W B O av al) (hp : 0 < al.length) : ∃ g cap cur, av = .slice (some ⟨g, 0, none⟩) al.length cap ∧ al.length ≤ cap ∧ RowAt W g cur 81 ∧ ∀ (k : Nat) (q : Ak) (dv : Value), al[k]? = some (q, dv) → ∀ i, i < 5 → cur[k * 5 + i]? = (q.c dv)[i]? := by
  obtain ⟨g, cap, cur, rfl, h1, h2, hb, hr, hs, ht⟩ := own_row h.row hp
  refine ⟨g, cap, cur, rfl, h1, hr, fun k q dv hk i hi => ?_⟩
  have hkl := (List.getElem?_eq_some_iff.1 hk).1
  have e1 : (cur.toList.take (al.length * 5))[k * 5 + i]? = cur[k * 5 + i]? := by
    rw [List.getElem?_take, if_pos (by omega), Array.getElem?_toList]
  rw [← e1, ht]
  exact askL_at al k (q, dv) hk i hi
/-- What stands between Poll and the next round. -/
structure Mid (w : World) (B NS NT b : Nat) (s t : Bk) (v v' av : Value) (l' : List (Rq × Value)) (al : List (Ak × Value)) (f2 : Nat → Nat) (c2 : Nat) (O2 : Nat → Prop) (ids : List Nat) (wv : Value) (wr : World) : Prop where
  ns : RowAt wr NS (s.c v) 53
  nt : RowAt wr NT (t.c v') 53
  ram : RamB wr (B + 1) b 2 f2 c2 O2
  ins : InAt wr (B + 1) O2 v' l'
  ask : AsksAt wr (B + 1) O2 av al
  wa : wr.ownsRow (B + 1) 22 1 wv ids.length (u32V ids)
  wn : ∀ g, wv.ownBlock = some g → ¬ O2 g
  bel : Below B w wr
variable {s t : Bk} {v' av wv : Value} {l' : List (Rq × Value)} {al : List (Ak × Value)} {f2 : Nat → Nat} {c2 NS NT b : Nat} {O2 : Nat → Prop} {ids : List Nat} {wr W : World}
theorem Mid.bl (h : Mid w B NS NT b s t v v' av l' al f2 c2 O2 ids wv wr) (hb : Below wr.heap.size wr W) : Mid w B NS NT b s t v v' av l' al f2 c2 O2 ids wv W :=
  ⟨h.ns.bl hb, h.nt.bl hb, h.ram.bl hb, h.ins.bl hb, h.ask.bl hb, own_bel h.wa hb, h.wn, h.bel.trans (hb.mono (by have := h.ram.base; omega))⟩
theorem Mid.dr (h : Mid w B NS NT b s t v v' av l' al f2 c2 O2 ids wv wr) : Mid w B NS NT b s t v v' av l' al f2 c2 O2 ids wv wr.drew :=
  h.bl ((Below.refl _ wr).drew)
theorem Mid.dn (h : Mid w B NS NT b s t v v' av l' al f2 c2 O2 ids wv wr) (n : Nat) : Mid w B NS NT b s t v v' av l' al f2 c2 O2 ids wv (wr.drewN n) :=
  h.bl (below_dn (Below.refl _ wr) n)
theorem Mid.app {z : Nat} {v2 : Value} (h : Mid w B NS NT b s t v v' av l' al f2 c2 O2 ids wv wr) (hown : W.ownsRow (B + 1) 22 1 v2 (ids.length + 1) (u32V (ids ++ [z]))) (hg : wr.grownBy W wv.ownBlock) (hbk : v2.ownBlock = wv.ownBlock ∨ v2.ownBlock = some wr.heap.size) : Mid w B NS NT b s t v v' av l' al f2 c2 O2 (ids ++ [z]) v2 W := by
  have hrT := own_rowT h.wa
  have hbase := h.ram.base
  refine ⟨grow_row h.ns hg (fun e => absurd (own_ty h.wa e h.ns) (by decide)), grow_row h.nt hg (fun e => absurd (own_ty h.wa e h.nt) (by decide)), grow_ram h.ram hg h.wn, ⟨own_grow (cs := #[]) h.ins.row hg hrT (by decide), fun x hx => own_grow (cs := #[]) (h.ins.own x hx) hg hrT (by decide), h.ins.far, h.ins.fars⟩, h.ask.keep (fun g cs t' hr ht hn => ⟨hg.block g hr.lt (fun e => ?_), hn⟩), by rw [List.length_append]; exact hown, grow_no h.ram h.wn hbk, grow_below h.bel hg (by omega) (fun g e => by have := (h.wa.lt g e).1; omega)⟩
  have := own_ty h.wa e.symm hr
  rcases ht with rfl | rfl <;> exact absurd this (by decide)
theorem OffAt.belR {w W : World} {B : Nat} (h : OffAt w) (hG : 1 < B) (hb : Below B w W) : OffAt W := ⟨(hb.cell (p := ⟨1, 0, none⟩) hG).trans h.1, (hb.cell (p := ⟨1, 1, none⟩) hG).trans h.2⟩
/-- Answers of the disk that came in. -/
structure DonesAt (w : World) (B : Nat) (la : Option Addr) (len : Nat) (gi : Nat → Nat) (gk : Nat → Bool) (gn : Nat → Int) : Prop where
  lies : ∀ j, j < len → ∃ b o, la = some ⟨b, o, none⟩ ∧ b < B ∧ w.cell? ⟨b, o + j * 4, none⟩ = some (.int .u32 (gi j : Nat)) ∧ w.cell? ⟨b, o + j * 4 + 1, none⟩ = some (.bool (gk j)) ∧ w.cell? ⟨b, o + j * 4 + 2, none⟩ = some (.int .i64 (gn j))
  small : ∀ j, j < len → gi j < 4294967296 ∧ -9223372036854775808 ≤ gn j ∧ gn j ≤ 9223372036854775807
end Go.Proofs.YtaaiockiojejeaaGreatDoor
namespace Go.Proofs.YtaaiockiojejeaaGreatDoor
open Go.RowKit
set_option linter.unusedVariables false
set_option linter.unusedSimpArgs false

theorem i64_and1023 (n : Int) : bits .and .i64 n 1023 = n % 1024 := by
  have h3 : (BitVec.ofInt 64 1023).toNat = 2 ^ 10 - 1 := by decide
  have key : (BitVec.ofInt 64 n &&& BitVec.ofInt 64 1023).toNat = (n % ((2 ^ 64 : Nat) : Int)).toNat % 2 ^ 10 := by
    rw [BitVec.toNat_and, BitVec.toNat_ofInt, h3, Nat.and_two_pow_sub_one_eq_mod]
  show IntKind.i64.wrap ((BitVec.ofInt 64 n &&& BitVec.ofInt 64 1023).toNat : Nat) = n % 1024
  rw [key, IntKind.wrap_i64]
  omega
theorem filt_erase : ∀ (l : List Nat), l.Nodup → ∀ (k x : Nat), l[k]? = some x → l.filter (fun y => y != x) = l.eraseIdx k
  | [], _, k, x, hk => by simp at hk
  | a :: t, h, 0, x, hk => by
    obtain rfl : a = x := by simpa using hk
    have hn := (List.nodup_cons.1 h).1
    rw [List.filter_cons_of_neg (by simp), List.eraseIdx_cons_zero]
    exact List.filter_eq_self.2 (fun y hy => by
      have : y ≠ a := fun e => hn (e ▸ hy)
      simp [this])
  | a :: t, h, k + 1, x, hk => by
    have hk' : t[k]? = some x := by simpa using hk
    have hne : a ≠ x := fun e => (List.nodup_cons.1 h).1 (e ▸ List.mem_of_getElem? hk')
    rw [List.filter_cons_of_pos (by simp [hne]), List.eraseIdx_cons_succ, filt_erase t (List.nodup_cons.1 h).2 k x hk']
theorem map_er {α β : Type} (f : α → β) : ∀ (l : List α) (k : Nat), (l.eraseIdx k).map f = (l.map f).eraseIdx k
  | [], k => by simp
  | a :: t, 0 => rfl
  | a :: t, k + 1 => by rw [List.eraseIdx_cons_succ, List.map_cons, map_er f t k, List.map_cons, List.eraseIdx_cons_succ]
theorem ids_erase {l : List Rq} {id k : Nat} (h : (l.map (·.id)).Nodup) (hk : idxQ l id = (k : Nat)) : (l.eraseIdx k).map (·.id) = (l.map (·.id)).filter (fun y => y != id) := by
  obtain ⟨k', q, h1, h2, h3⟩ := idxQ_pos (show 0 ≤ idxQ l id by omega)
  obtain rfl : k = k' := by omega
  rw [map_er, filt_erase _ h k id (by rw [List.getElem?_map, h2, ← h3]; rfl)]
theorem ids_gone {l : List Rq} {id k : Nat} (h : (l.map (·.id)).Nodup) (hk : idxQ l id = (k : Nat)) : idxQ (l.eraseIdx k) id < 0 := by
  refine idxQ_neg.2 fun q hq e => ?_
  have hm : q.id ∈ (l.eraseIdx k).map (·.id) := List.mem_map_of_mem hq
  rw [ids_erase h hk, List.mem_filter] at hm
  simp [e] at hm
/-- The first k of some numbers, without one. -/
def flt (ids : List Nat) (id k : Nat) : List Nat := (ids.take k).filter (fun y => y != id)
theorem flt_eq {ids : List Nat} {id k : Nat} (h : k < ids.length) (e : ids[k] = id) : flt ids id (k + 1) = flt ids id k := by
  unfold flt
  rw [List.take_add_one, List.getElem?_eq_getElem h, e, List.filter_append]
  simp
theorem flt_ne {ids : List Nat} {id k : Nat} (h : k < ids.length) (e : ids[k] ≠ id) : flt ids id (k + 1) = flt ids id k ++ [ids[k]] := by
  unfold flt
  rw [List.take_add_one, List.getElem?_eq_getElem h, List.filter_append]
  simp [e]
theorem flt_all (ids : List Nat) (id : Nat) : flt ids id ids.length = ids.filter (fun y => y != id) := by
  unfold flt
  rw [List.take_of_length_le (Nat.le_refl _)]
theorem flt_len (ids : List Nat) (id k : Nat) : (flt ids id k).length ≤ ids.length := by
  unfold flt
  exact Nat.le_trans (List.length_filter_le ..) (by rw [List.length_take]; omega)
theorem Good.bell {t : Bk} (h : Good t) : Good { t with be := true } := ⟨h.p, h.sc, h.nx, h.len, h.fre, h.nod, h.qs⟩
/-- The disk's state at NS, the memory, what waits. -/
structure Tl (w : World) (B NS b : Nat) (t : Bk) (v : Value) (l : List (Rq × Value)) (f : Nat → Nat) (c : Nat) (O : Nat → Prop) (ids : List Nat) (wv : Value) (wr : World) : Prop where
  ns : RowAt wr NS (t.c v) 53
  ram : RamB wr (B + 1) b 2 f c O
  ins : InAt wr (B + 1) O v l
  wa : wr.ownsRow (B + 1) 22 1 wv ids.length (u32V ids)
  wn : ∀ g, wv.ownBlock = some g → ¬ O g
  no : ¬ O NS
  lo : B + 1 ≤ NS
  bel : Below B w wr
variable {w wr W : World} {B NS NU b : Nat} {t : Bk} {v wv : Value} {l : List (Rq × Value)} {f f' : Nat → Nat} {c c' : Nat} {O O' : Nat → Prop} {ids : List Nat}
theorem Tl.bl (h : Tl w B NS b t v l f c O ids wv wr) (hb : Below wr.heap.size wr W) : Tl w B NS b t v l f c O ids wv W :=
  ⟨h.ns.bl hb, h.ram.bl hb, h.ins.bl hb, own_bel h.wa hb, h.wn, h.no, h.lo, h.bel.trans (hb.mono (by have := h.ram.base; omega))⟩
theorem Tl.dr (h : Tl w B NS b t v l f c O ids wv wr) : Tl w B NS b t v l f c O ids wv wr.drew := h.bl ((Below.refl _ wr).drew)
theorem Tl.dn (h : Tl w B NS b t v l f c O ids wv wr) (n : Nat) : Tl w B NS b t v l f c O ids wv (wr.drewN n) := h.bl (below_dn (Below.refl _ wr) n)
theorem Tl.more (h : Tl w B NS b t v l f c O ids wv wr) (hc : c ≤ c') : Tl w B NS b t v l f c' O ids wv wr := ⟨h.ns, h.ram.more hc, h.ins, h.wa, h.wn, h.no, h.lo, h.bel⟩
theorem Tl.went (h : Tl w B NS b t v l f c O ids wv wr) (hM : RamB W (B + 1) b 2 f' c' O') (hW : Went (B + 1) O O' wr W) : Tl w B NS b t v l f' c' O' ids wv W :=
  ⟨hW.row h.ns h.no, hM, h.ins.went hW, own_went h.wa hW h.wn, fun g e => hW.no (h.wa.lt g e).2 (h.wn g e), hW.no h.ns.lt h.no, h.lo, h.bel.trans (hW.below.mono (by omega))⟩
theorem Tl.only {cs : Array Value} (h : Tl w B NS b t v l f c O ids wv wr) (hr : RowAt wr NU cs 53) (ho : Only NU wr W) (hn : NU ≠ NS) (hO : ¬ O NU) (hB : B ≤ NU) : Tl w B NS b t v l f c O ids wv W :=
  ⟨h.ns.only ho (fun e => hn e.symm), h.ram.only ho hO, h.ins.only ho (fun e => absurd (own_ty h.ins.row e hr) (by decide)) (fun x hx e => absurd (own_ty (h.ins.own x hx) e hr) (by decide)), own_only h.wa ho (fun e => absurd (own_ty h.wa e hr) (by decide)), h.wn, h.no, h.lo, ho.bel _ _ hB h.bel⟩
/-- Another state, and what is In, stand at NS now. -/
theorem Tl.set {t' : Bk} {v' : Value} {l' : List (Rq × Value)} (h : Tl w B NS b t v l f c O ids wv wr) (hr : RowAt W NS (t'.c v') 53) (ho : Only NS wr W) (hI : InAt wr (B + 1) O v' l') : Tl w B NS b t' v' l' f c O ids wv W :=
  ⟨hr, h.ram.only ho h.no, hI.only ho (fun e => absurd (own_ty hI.row e h.ns) (by decide)) (fun x hx e => absurd (own_ty (hI.own x hx) e h.ns) (by decide)), own_only h.wa ho (fun e => absurd (own_ty h.wa e h.ns) (by decide)), h.wn, h.no, h.lo, ho.bel _ _ (by have := h.lo; omega) h.bel⟩
/-- Another list waits now. -/
theorem Tl.wait {ids' : List Nat} {wv' : Value} {BR : Nat} (h : Tl w B NS b t v l f c O ids wv wr) (hw : wr.ownsRow BR 22 1 wv' ids'.length (u32V ids')) (hB : B + 1 ≤ BR) (hO : ∀ x, O x → x < BR) : Tl w B NS b t v l f c O ids' wv' wr :=
  ⟨h.ns, h.ram, h.ins, own_lower2 hw hB, fun g e hx => absurd (hO g hx) (by have := (hw.lt g e).1; omega), h.no, h.lo, h.bel⟩
/-- What Finish answered. -/
structure Fi (t : Bk) (id B : Nat) (O : Nat → Prop) (s : Bk) (v ev : Value) (W : World) : Prop where
  ex : (∃ z : Int, ev = .iface 129 (.int .i64 z)) ∨ ∃ (k : Nat) (l : List (Rq × Value)), idxQ t.l id = (k : Nat) ∧ k < t.l.length ∧ ev = .nilIface ∧ Good s ∧ s.l = t.l.eraseIdx k ∧ l.map (·.1) = s.l ∧ InAt W (B + 1) O v l
  one : v.oneCell' = true
variable {s : Bk} {id : Nat} {ev : Value}
theorem Fi.bl (h : Fi t id B O s v ev wr) (hb : Below wr.heap.size wr W) : Fi t id B O s v ev W := by
  refine ⟨?_, h.one⟩
  rcases h.ex with ⟨z, e⟩ | ⟨k, l, h1, h2, h3, h4, h5, h6, h7⟩
  · exact .inl ⟨z, e⟩
  · exact .inr ⟨k, l, h1, h2, h3, h4, h5, h6, h7.bl hb⟩
theorem Fi.only {cs : Array Value} (h : Fi t id B O s v ev wr) (hr : RowAt wr NU cs 53) (ho : Only NU wr W) : Fi t id B O s v ev W := by
  refine ⟨?_, h.one⟩
  rcases h.ex with ⟨z, e⟩ | ⟨k, l, h1, h2, h3, h4, h5, h6, h7⟩
  · exact .inl ⟨z, e⟩
  · exact .inr ⟨k, l, h1, h2, h3, h4, h5, h6, h7.only ho (fun e => absurd (own_ty h7.row e hr) (by decide)) (fun x hx e => absurd (own_ty (h7.own x hx) e hr) (by decide))⟩
theorem Tl.fin (h : Tl w B NS b t v l f c O ids wv wr) (hs : Good t) (hsl : l.map (·.1) = t.l) (hA : AreasAt wr) (hG : 2 < B + 1) (hc : c ≤ 500000000) (id : Nat) (okv : Bool) (da : Option Addr) (m dc : Nat) (hm : m ≤ 2000000) {Bd : Nat} (hD : wr.ownsRow Bd 5 1 (.slice da m dc) m (byteV (List.replicate m 0))) :
    Calls Tryz.prog 17 #[.agg (t.c v), .pointer (some ⟨b, 0, none⟩), .int .u32 (id : Nat), .bool okv, .slice da m dc] wr fun e w' => ∃ (s' : Bk) (v2 ev : Value) (f4 : Nat → Nat) (O4 : Nat → Prop), e = .returned (.tuple #[.agg (s'.c v2), ev]) ∧ Fi t id B O4 s' v2 ev w' ∧ Tl w B NS b t v l f4 (c + 300) O4 ids wv w' ∧ Went (B + 1) O O4 wr w' := by
  refine (finish_all t hs l hsl v id h.ram hA hG h.ins hc okv da m dc hm (fun _ => hD)).mono ?_
  rintro e w' ⟨hx⟩
  rcases hx with ⟨z, rfl, _, hb⟩ | ⟨k, s', v', l', O', f', h1, h2, rfl, h3, h4, h5, h6, h7, h8⟩
  · exact ⟨zeroBk, nilS, _, f, O, rfl, ⟨.inl ⟨z, rfl⟩, rfl⟩, (h.bl hb).more (by omega), Went.of hb h.ram.base⟩
  · exact ⟨s', v', _, f', O', rfl, ⟨.inr ⟨k, l', h1, h2, rfl, h3, h4, h5, h8.lower h.ram.base⟩, own_one h8.row⟩, h.went h6 h7, h7⟩
end Go.Proofs.YtaaiockiojejeaaGreatDoor
