/-
  RingWalks, walked.
-/
import Derived.Test.YtghpjibjhaomoaaGreatDoorJRiRWk
import Derived.Test.YtghpjibjhaomoaaGreatDoorJRiRRm
import Derived.Test.YtghpjibjhaomoaaGreatDoorJRiRGa
import Derived.Test.YtghpjibjhaomoaaGreatDoorJRiSure
import Derived.Test.YtghpjibjhaomoaaGreatDoorJNum
namespace Go.Proofs.YtghpjibjhaomoaaGreatDoor
open Go.RowKit
set_option linter.unusedVariables false
set_option linter.unusedSimpArgs false

def sumQ : List Sg → Nat
  | [] => 0
  | s :: t => s.n.toNat + sumQ t
theorem odd_sum (p : Nat) : ∀ (l : List (Nat → Nat)) (tot : Nat) (wr : Bool), oddL p tot wr l = false → tot ≤ 1048576 → tot + sumQ (l.map sgOf) ≤ 1048576 ∧ ∀ s ∈ l.map sgOf, inS p s = true ∧ 0 ≤ s.n ∧ s.n ≤ 1048576
  | [], tot, wr, _, ht => ⟨by simpa [sumQ] using ht, fun s hs => by cases hs⟩
  | g :: t, tot, wr, h, ht => by
    have e : oddL p tot wr (g :: t) = (oddD p tot wr g || oddL p (tot + g 2) (hasD g 2) t) := rfl
    rw [e, Bool.or_eq_false_iff] at h
    obtain ⟨h1, h2⟩ := h
    unfold oddD at h1
    simp only [Bool.or_eq_false_iff, decide_eq_false_iff_not, Bool.not_eq_false'] at h1
    obtain ⟨_, q1, _, _, q2⟩ := h1
    obtain ⟨i1, i2⟩ := odd_sum p t (tot + g 2) (hasD g 2) h2 (by omega)
    refine ⟨by show tot + (((g 2 : Nat) : Int).toNat + sumQ (t.map sgOf)) ≤ _; rw [Int.toNat_natCast]; omega, fun s hs => ?_⟩
    rcases List.mem_cons.1 hs with rfl | hs
    · exact ⟨by unfold inS sgOf; simp only [Int.toNat_natCast]; exact q2, by show (0 : Int) ≤ ((g 2 : Nat) : Int); omega, by show ((g 2 : Nat) : Int) ≤ _; omega⟩
    · exact i2 s hs
theorem parts_same (f : Nat → Nat) (p : Nat) : ∀ (l : List Sg) (x : Int), (∀ s ∈ l, inS p s = true ∧ 0 ≤ s.n ∧ s.n ≤ 1048576) → (sumQ l : Int) ≤ x → gathF f (partsV false x l) = gdF f l ∧ (partsV false x l).all (inS p) = true
  | [], x, _, _ => ⟨rfl, rfl⟩
  | s :: t, x, h, hx => by
    obtain ⟨a1, a2, a3⟩ := h s (List.mem_cons_self ..)
    have hx2 : (s.n.toNat : Int) + (sumQ t : Int) ≤ x := by have : sumQ (s :: t) = s.n.toNat + sumQ t := rfl; omega
    have eg : gdF f (s :: t) = (if s.wr then [] else segF f s) ++ gdF f t := rfl
    rw [eg]
    by_cases hc : s.wr = false ∧ 0 < s.n ∧ 0 < x
    · obtain ⟨i1, i2⟩ := parts_same f p t (x - s.n) (fun y hy => h y (List.mem_cons_of_mem _ hy)) (by omega)
      have ep : partsV false x (s :: t) = s :: partsV false (x - s.n) t := by
        rw [partsV, if_pos hc, if_pos (show s.n ≤ x by omega)]
      rw [ep, hc.1]
      refine ⟨?_, ?_⟩
      · show segF f s ++ gathF f (partsV false (x - s.n) t) = segF f s ++ gdF f t
        rw [i1]
      · rw [List.all_cons, a1, i2]; rfl
    · obtain ⟨i1, i2⟩ := parts_same f p t x (fun y hy => h y (List.mem_cons_of_mem _ hy)) (by omega)
      have ep : partsV false x (s :: t) = partsV false x t := by rw [partsV, if_neg hc]
      rw [ep]
      refine ⟨?_, i2⟩
      rw [i1]
      cases hw : s.wr with
      | true => rfl
      | false =>
        have hn : s.n.toNat = 0 := by
          rcases Nat.eq_zero_or_pos s.n.toNat with e | e
          · exact e
          · exact absurd ⟨hw, by omega, by omega⟩ hc
        have : segF f s = [] := List.eq_nil_of_length_eq_zero (by rw [segF_len, hn])
        rw [this]; rfl
theorem pairs_up {w W : World} {B B' : Nat} {la : Option Addr} {len : Nat} {g : Nat → Nat → Nat} (h : PairsAt w B la len g) (hb : Below B w W) (hB : B ≤ B') : PairsAt W B' la len g :=
  ⟨fun j hj => by
    obtain ⟨b, o, e, hl, h0, h1⟩ := h.lies j hj
    exact ⟨b, o, e, by omega, (hb.cell (p := ⟨b, o + j * 2, none⟩) hl).trans h0, (hb.cell (p := ⟨b, o + j * 2 + 1, none⟩) hl).trans h1⟩, h.small⟩
theorem HandleAt.belW {w W : World} {B : Nat} (h : HandleAt w) (hG : 0 < B) (hb : Below B w W) : HandleAt W := (hb.cell (p := ⟨0, 0, none⟩) hG).trans h
/-- What both walks answer. -/
structure Both (r : Rg) (hd : Int) (f : Nat → Nat) (l : List Sg) (ec : Nat) : Prop where
  prog : ∀ {w : World} {B b c : Nat} {O : Nat → Prop}, RamB w B b 2 f c O → AreasAt w → 1 < B → Calls Tryz.prog 14 #[.agg r.cells, .pointer (some ⟨b, 0, none⟩), .int .i64 hd] w fun e w' => ∃ O' v, e = .returned (.tuple #[v, errR ec]) ∧ RamB w' B b 2 f c O' ∧ Went B O O' w w' ∧ w'.ownsRow w.heap.size 70 3 v l.length (segL l) ∧ ∀ g, v.ownBlock = some g → ¬ O' g
  doc : ∀ {w : World} {rp : RP}, RefAt w 8192 2 f rp → Calls Tryz.prog 15 #[.agg r.cells, .agg (rp.v 8192 2), .int .i64 hd] w fun e w' => ∃ v, e = .returned (.tuple #[v, .int .i64 (ec : Nat)]) ∧ Below w.heap.size w w' ∧ w'.ownsRow w.heap.size 100 3 v l.length (segL l)
  len : l.length ≤ 256
  ok : ∀ s ∈ l, s.Ok ∧ inS 2 s = true ∧ 0 ≤ s.n ∧ s.n ≤ 1048576
  sum : sumQ l ≤ 1048576
theorem both_of (r : Rg) (hr : r.Ok) (hd : Int) (h0 : -9223372036854775808 ≤ hd) (h1 : hd ≤ 9223372036854775807) (f : Nat → Nat) (hf : ∀ x, f x < 256) : ∃ l ec, Both r hd f l ec := by
  cases hc : chkR r with
  | false =>
    refine ⟨[], 1, ⟨?_, ?_, by decide, (fun s hs => by cases hs), by decide⟩⟩
    · intro w B b c O hM hA hG
      refine (walk_bad r hr hc hd b w).mono ?_
      rintro e w' ⟨rfl, hb⟩
      exact ⟨O, _, rfl, hM.bl hb, Went.of hb hM.base, World.ownsRow_nil _ _ _ _, fun g e => by cases e⟩
    · intro w rp h
      refine (dwalk_bad r hr hc hd rp w).mono ?_
      rintro e w' ⟨rfl, hb⟩
      exact ⟨_, rfl, hb, World.ownsRow_nil _ _ _ _⟩
  | true =>
    cases hw : followV 2 f r r.sz.toNat hd with
    | none =>
      have hv : walkV 2 f r hd = none := by unfold walkV; rw [hw]
      refine ⟨[], 22, ⟨?_, ?_, by decide, (fun s hs => by cases hs), by decide⟩⟩
      · intro w B b c O hM hA hG
        refine (walk_nf r hr hc hd hM hA hG hw).mono ?_
        rintro e w' ⟨rfl, O', a1, a2⟩
        exact ⟨O', _, rfl, a1, a2, World.ownsRow_nil _ _ _ _, fun g e => by cases e⟩
      · intro w rp h
        refine (dwalk_any r hr hc hd h0 h1 h).mono ?_
        rintro e w' ⟨hb, ⟨_, rfl⟩ | ⟨l, v, q, _⟩⟩
        · exact ⟨_, rfl, hb, World.ownsRow_nil _ _ _ _⟩
        · rw [hv] at q; cases q
    | some dl =>
      cases ho : oddL 2 0 false dl with
      | true =>
        have hv : walkV 2 f r hd = none := by unfold walkV; rw [hw]; simp [ho]
        refine ⟨[], 22, ⟨?_, ?_, by decide, (fun s hs => by cases hs), by decide⟩⟩
        · intro w B b c O hM hA hG
          refine (walk_odd r hr hc hd hM hA hG dl hw ho).mono ?_
          rintro e w' ⟨rfl, O', a1, a2⟩
          exact ⟨O', _, rfl, a1, a2, World.ownsRow_nil _ _ _ _, fun g e => by cases e⟩
        · intro w rp h
          refine (dwalk_any r hr hc hd h0 h1 h).mono ?_
          rintro e w' ⟨hb, ⟨_, rfl⟩ | ⟨l, v, q, _⟩⟩
          · exact ⟨_, rfl, hb, World.ownsRow_nil _ _ _ _⟩
          · rw [hv] at q; cases q
      | false =>
        have hv : walkV 2 f r hd = some (dl.map sgOf) := by unfold walkV; rw [hw]; simp [ho]
        obtain ⟨k, hk, _, hk1⟩ := chkR_sz hc
        have hlen := (follow_len _ _ _ hw).1
        have hww := follow_words hf _ _ _ hw
        obtain ⟨i1, i2⟩ := odd_sum 2 dl 0 false ho (by decide)
        refine ⟨dl.map sgOf, 0, ⟨?_, ?_, by rw [List.length_map]; omega, fun s hs => ?_, by omega⟩⟩
        · intro w B b c O hM hA hG
          refine (walk_ok r hr hc hd hM hA hG dl hw ho).mono ?_
          rintro e w' ⟨O', v, rfl, a1, a2, a3, a4⟩
          exact ⟨O', v, rfl, a1, a2, by rw [List.length_map]; exact a3, a4⟩
        · intro w rp h
          refine (dwalk_any r hr hc hd h0 h1 h).mono ?_
          rintro e w' ⟨hb, ⟨q, _⟩ | ⟨l, v, q, rfl, a3⟩⟩
          · rw [hv] at q; cases q
          · rw [hv] at q; cases q
            exact ⟨v, rfl, hb, a3⟩
        · obtain ⟨g, hg, rfl⟩ := List.mem_map.1 hs
          have := i2 _ hs
          have hg0 := hww g hg 0
          exact ⟨⟨hg0, by have := this.2.1; omega, by have := this.2.2; omega⟩, this⟩
set_option maxRecDepth 20000 in
set_option maxHeartbeats 8000000 in
theorem walks_walk (r : Rg) (hr0 : r.Ok) (la : Option Addr) (len cap : Nat) (g : Nat → Nat → Nat) (hd : Int) (hd0 : -9223372036854775808 ≤ hd) (hd1 : hd ≤ 9223372036854775807) (w : World) (hl : PairsAt w w.heap.size la len g) (hlc : len ≤ cap) (hcm : cap ≤ 9223372036854775807) (hA : AreasAt w) (hHn : HandleAt w) :
    Calls Tryz.prog 4 #[.agg r.cells, .slice la len cap, .int .i64 hd] w fun e w' => e = .returned (.bool true) ∧ Below w.heap.size w w' := by
  obtain ⟨B, hB⟩ : ∃ B, w.heap.size = B := ⟨_, rfl⟩
  have hG0 : 1 < B := hB ▸ hA.lt
  have hE0 : 0 < B := hB ▸ lt_of_cell (show w.cell? ⟨0, 0, none⟩ = some _ from hHn)
  have hG : 1 < B + 1 + 1 := by omega
  have HA0 := hide hA
  have HE0 := hide hHn
  rw [hB] at hl ⊢
  have HBo : Hid (∀ W, Below B w W → W.heap.size = B + 1 → Calls Tryz.prog 7 #[.slice la len cap] W fun e w' => ∃ b f O rp, e = .returned (.tuple #[.pointer (some ⟨b, 0, none⟩), .agg (RP.v rp 8192 2)]) ∧ RamB w' (B + 1 + 1) b 2 f 80 O ∧ RefB w' (B + 1 + 1) 8192 2 f rp O ∧ Below (B + 1) W w') := hide (fun W hb hz => by
    have h := rboth_any la len cap g W (by rw [hz]; exact pairs_up hl hb (by omega)) hlc hcm
    rw [hz] at h
    exact h.mono (by
      rintro e w' ⟨b, f, O, rp, _, he, h1, h2, h3⟩
      exact ⟨b, f, O, rp, he, h1, h2, h3⟩))
  have HSu : Hid (∀ W, AreasAt W → Calls Tryz.prog 13 #[] W fun e w' => e = .returned (.bool true) ∧ Below W.heap.size W w') := hide (fun W hA => rsure_any W hA)
  have HNN := hide num_nil
  have HPW : Hid (∀ W O1 b f, RamB W (B + 1 + 1) b 2 f 80 O1 → AreasAt W → Calls Tryz.prog 14 #[.agg r.cells, .pointer (some ⟨b, 0, none⟩), .int .i64 hd] W fun e w' => ∃ l ec, Both r hd f l ec ∧ ∃ O' v, e = .returned (.tuple #[v, errR ec]) ∧ RamB w' (B + 1 + 1) b 2 f 80 O' ∧ Went (B + 1 + 1) O1 O' W w' ∧ w'.ownsRow W.heap.size 70 3 v l.length (segL l) ∧ ∀ g, v.ownBlock = some g → ¬ O' g) := hide (fun W O1 b f hM hA => by
    obtain ⟨l, ec, hBB⟩ := both_of r hr0 hd hd0 hd1 f hM.small
    refine (hBB.prog hM hA hG).mono ?_
    rintro e w' ⟨O', v, a1, a2, a3, a4, a5⟩
    exact ⟨l, ec, hBB, O', v, a1, a2, a3, a4, a5⟩)
  have HDW : Hid (∀ W (rp : RP) f l ec, Both r hd f l ec → RefAt W 8192 2 f rp → Calls Tryz.prog 15 #[.agg r.cells, .agg (rp.v 8192 2), .int .i64 hd] W fun e w' => ∃ v, e = .returned (.tuple #[v, .int .i64 (ec : Nat)]) ∧ Below W.heap.size W w' ∧ w'.ownsRow W.heap.size 100 3 v l.length (segL l)) := hide (fun W rp f l ec hBB h => hBB.doc h)
  have HNE : Hid (∀ W (ec : Nat), HandleAt W → Calls Tryz.prog 10 #[errR ec] W fun e w' => e = .returned (.int .i64 (ec : Nat)) ∧ Below W.heap.size W w') := hide (fun W ec h => by
    unfold errR
    split
    · rename_i e; subst e; exact num_nil W
    · exact num_err (ec : Int) W h)
  have HGa : Hid (∀ W O1 b f l ec v Bl, Both r hd f l ec → RamB W (B + 1 + 1) b 2 f 80 O1 → AreasAt W → W.ownsRow Bl 70 3 v l.length (segL l) → Calls Tryz.prog 16 #[.pointer (some ⟨b, 0, none⟩), v] W fun e w' => ∃ O' v', e = .returned (.tuple #[v', .nilIface]) ∧ RamB w' (B + 1 + 1) b 2 f 80 O' ∧ Went (B + 1 + 1) O1 O' W w' ∧ w'.ownsRow W.heap.size 5 1 v' (gdF f l).length (byteV (gdF f l)) ∧ ∀ g, v'.ownBlock = some g → ¬ O' g) := hide (fun W O1 b f l ec v Bl hBB hM hA hL => by
    have hps := parts_same f 2 l 9223372036854775807 (fun s hs => (hBB.ok s hs).2) (by have := hBB.sum; omega)
    have h := gath_ok l (by have := hBB.len; omega) (fun s hs => (hBB.ok s hs).1) hM hA hG hL hps.2
    rw [hps.1] at h
    exact h)
  have HDG : Hid (∀ W (rp : RP) f l ec v Bl, Both r hd f l ec → RefAt W 8192 2 f rp → W.ownsRow Bl 100 3 v l.length (segL l) → Calls Tryz.prog 17 #[.agg (rp.v 8192 2), v] W fun e w' => Below W.heap.size W w' ∧ ∃ v', e = .returned (.tuple #[v', .int .i64 0]) ∧ w'.ownsRow W.heap.size 5 1 v' (gdF f l).length (byteV (gdF f l))) := hide (fun W rp f l ec v Bl hBB h hL => dgath_ok l hBB.len (fun s hs => ⟨(hBB.ok s hs).1, (hBB.ok s hs).2.2.1, (hBB.ok s hs).2.1⟩) h hL)
  have HRo : Hid (∀ (W : World) f l ec v Bl, Both r hd f l ec → W.ownsRow Bl 70 3 v l.length (segL l) → Calls Tryz.prog 18 #[v] W fun e w' => e = .returned (.tuple #[.int .i64 (roomV false 0 l), .int .i64 (roomV true 0 l)]) ∧ Below W.heap.size W w') := hide (fun W f l ec v Bl hBB hL => room_any l (by have := hBB.len; omega) (fun s hs => (hBB.ok s hs).1) hL)
  have HDR : Hid (∀ (W : World) f l ec v Bl, Both r hd f l ec → W.ownsRow Bl 100 3 v l.length (segL l) → Calls Tryz.prog 19 #[v] W fun e w' => e = .returned (.tuple #[.int .i64 (roomV false 0 l), .int .i64 (roomV true 0 l)]) ∧ w' = W) := hide (fun W f l ec v Bl hBB hL => droom_any l hBB.len (fun s hs => ⟨(hBB.ok s hs).2.2.1, by have := (hBB.ok s hs).2.2.2; omega⟩) hL)
  have HSe : Hid (∀ (W : World) f l ec v1 v2 B1 B2, Both r hd f l ec → W.ownsRow B1 70 3 v1 l.length (segL l) → W.ownsRow B2 100 3 v2 l.length (segL l) → Calls Tryz.prog 20 #[v1, v2] W fun e w' => e = .returned (.bool true) ∧ Below W.heap.size W w') := hide (fun W f l ec v1 v2 B1 B2 hBB h1 h2 => segs_any l hBB.len h1 h2)
  have HCo : Hid (∀ (W : World) f l Bv v, (∀ x, f x < 256) → W.ownsRow Bv 5 1 v (gdF f l).length (byteV (gdF f l)) → (convert 28 9 v).run Tryz.prog W = .ok (.string (txtR (gdF f l))) W) := hide (fun W f l Bv v hf h => conv_own (fun y hy => by
    obtain ⟨s, _, hs⟩ := List.mem_flatMap.1 hy
    split at hs
    · cases hs
    · obtain ⟨j, _, rfl⟩ := List.mem_map.1 hs
      exact hf _) h)
  clear hA hHn hl hr0 hd0 hd1
  go_enter Tryz.func4, Tryz.ntmps4
  go_wp2_with (first | ((with_reducible refine bx_rr B r ?_ ?_ ?_); exact hB; exact rfl; intro W hg hb hz) | (go_at_call 7; (with_reducible refine (HBo.out _ hb hz.out).mono ?_); rintro e W1 ⟨b, f, O, rp, rfl, hM, hR, hbc⟩; have hgn : ¬ O B := (fun e => absurd (hM.low _ e) (by omega)); replace hg := hg.bl (hz.out ▸ hbc); replace hb := hb.trans (hbc.mono (by omega)); obtain ⟨NX, hNX0⟩ : ∃ n, W1.heap.size = n := ⟨_, rfl⟩; have hNX := hide hNX0; have hNB : B + 1 + 1 ≤ NX := hNX0 ▸ hM.base; have hnx : ¬ O NX := (fun e => absurd (hM.lt _ e) (by omega)); have hrx : ¬ rp.owns NX := (fun e => absurd (hR.ref.lt e) (by omega)); clear hNX0 hbc hz) | ((with_reducible refine al_Rz NX ?_ ?_); exact hNX.out; intro W hx hb' hz2; have hbc : Below W1.heap.size W1 W := (by rw [hNX.out]; exact hb'); replace hb := hb.trans (hb'.mono (by omega)); replace hM := hM.bl hbc; replace hR := hR.bl hbc; replace hg := hg.bl hbc; clear hb' hbc) | ((with_reducible refine st_R NX _ rp 8192 2 hx ?_ ?_ ?_ ?_); exact rfl; exact rfl; exact rfl; intro W hnew hoo; replace hM := hM.only hoo hnx; replace hR := hR.only hoo hrx; replace hg := hg.only hoo (by omega); replace hb := hoo.bel _ _ (by omega) hb; replace hx := hnew; clear hnew hoo) | ((with_reducible refine ld_rr B r hg ?_ ?_ ?_); exact rfl; exact rfl) | ((with_reducible refine ld_Rw NX rp 8192 2 hx ?_ ?_ ?_); exact rfl; exact rfl) | (go_at_call 14; (with_reducible refine (HPW.out _ _ _ _ hM (HA0.out.belR hG0 hb)).mono ?_); rintro e W2 ⟨l, ec, hBB, O2, v1, rfl, hM2, hW2, hV1, hV1n⟩; have n1 := hW2.no hg.lt hgn; have n2 := hW2.no hx.lt hnx; replace hg := hW2.row hg hgn; replace hx := hW2.row hx hnx; replace hR := hR.went hW2; replace hb := hb.trans (hW2.below.mono (by omega)); clear hM hgn hnx hW2; have hM := hM2; have hgn := n1; have hnx := n2; clear hM2 n1 n2) | (go_at_call 15; (with_reducible refine (HDW.out _ _ _ _ _ hBB hR.ref).mono ?_); rintro e W3 ⟨v2, rfl, hbc, hV2⟩; have hV2n : ∀ y, v2.ownBlock = some y → ¬ O2 y := (fun y e k => absurd (hM.lt y k) (by have := (hV2.lt y e).1; omega)); replace hM := hM.bl hbc; replace hR := hR.bl hbc; replace hg := hg.bl hbc; replace hx := hx.bl hbc; replace hV1 := own_bel hV1 hbc; replace hb := hb.trans (hbc.mono (by have := hb.size; omega)); clear hbc) | (go_at_call 16; (with_reducible refine (HGa.out _ _ _ _ _ _ _ _ hBB hM (HA0.out.belR hG0 hb) hV1).mono ?_); rintro e W4 ⟨O4, v3, rfl, hM4, hW4, hV3, hV3n⟩; replace hg := hW4.row hg hgn; replace hx := hW4.row hx hnx; replace hR := hR.went hW4; replace hV1 := own_went hV1 hW4 hV1n; replace hV2 := own_went hV2 hW4 hV2n; replace hb := hb.trans (hW4.below.mono (by omega)); clear hM hgn hnx hW4 hV1n hV2n hV3n; have hM := hM4; clear hM4) | (go_at_call 17; (with_reducible refine (HDG.out _ _ _ _ _ _ _ hBB hR.ref hV2).mono ?_); rintro e W5 ⟨hbc, v4, rfl, hV4⟩; replace hM := hM.bl hbc; replace hV1 := own_bel hV1 hbc; replace hV2 := own_bel hV2 hbc; replace hV3 := own_bel hV3 hbc; replace hb := hb.trans (hbc.mono (by have := hb.size; omega)); clear hbc hR hg hx) | (go_at_call 18; (with_reducible refine (HRo.out _ _ _ _ _ _ hBB hV1).mono ?_); rintro e W6 ⟨rfl, hbc⟩; replace hM := hM.bl hbc; replace hV1 := own_bel hV1 hbc; replace hV2 := own_bel hV2 hbc; replace hV3 := own_bel hV3 hbc; replace hb := hb.trans (hbc.mono (by have := hb.size; omega)); replace hV4 := own_bel hV4 hbc; clear hbc) | (go_at_call 19; (with_reducible refine (HDR.out _ _ _ _ _ _ hBB hV2).mono ?_); rintro e W7 ⟨rfl, rfl⟩) | (go_at_call 20; (with_reducible refine (HSe.out _ _ _ _ _ _ _ _ hBB hV1 hV2).mono ?_); rintro e W8 ⟨rfl, hbc⟩; replace hM := hM.bl hbc; replace hV1 := own_bel hV1 hbc; replace hV2 := own_bel hV2 hbc; replace hV3 := own_bel hV3 hbc; replace hb := hb.trans (hbc.mono (by have := hb.size; omega)); replace hV4 := own_bel hV4 hbc; clear hbc) | (go_at_call 10; (with_reducible refine (HNE.out _ _ (HE0.out.belW hE0 hb)).mono ?_); rintro e W9 ⟨rfl, hbc⟩; replace hM := hM.bl hbc; replace hV1 := own_bel hV1 hbc; replace hV2 := own_bel hV2 hbc; replace hV3 := own_bel hV3 hbc; replace hb := hb.trans (hbc.mono (by have := hb.size; omega)); replace hV4 := own_bel hV4 hbc; have hcv := HCo.out _ _ _ _ _ hM.small hV3; have hcw := HCo.out _ _ _ _ _ hM.small hV4; clear hbc) | (go_at_call 10; (with_reducible refine (HNN.out _).mono ?_); rintro e W10 ⟨rfl, hbc⟩; replace hb := hb.trans (hbc.mono (by have := hb.size; omega)); clear hbc) | (go_at_call 13; (with_reducible refine (HSu.out _ (HA0.out.belR hG0 hb)).mono ?_); rintro e W11 ⟨rfl, hbc⟩; replace hb := hb.trans (hbc.mono (by have := hb.size; omega)); clear hbc))
  go_ret
  exact ⟨rfl, hb⟩
end Go.Proofs.YtghpjibjhaomoaaGreatDoor
