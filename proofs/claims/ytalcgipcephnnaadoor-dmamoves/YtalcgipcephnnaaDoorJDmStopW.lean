/-
  DmaStops, walked.
-/
import Derived.Test.YtalcgipcephnnaaDoorJDmTick
import Derived.Test.YtalcgipcephnnaaDoorJDmBoth
import Derived.Test.YtalcgipcephnnaaDoorJDmSure
import Derived.Test.YtalcgipcephnnaaDoorJMeB2
import Derived.Test.YtalcgipcephnnaaDoorJDmEq
namespace Go.Proofs.YtalcgipcephnnaaDoor
open Go.RowKit
set_option linter.unusedVariables false
set_option linter.unusedSimpArgs false

theorem goes_of {s : E} (hm : mayE s = true) (h : s.cd = 1) : goes s = true := by unfold goes; rw [hm, h]; rfl
theorem goes_not {s : E} (h : s.cd ≠ 1) : goes s = false := by
  unfold goes
  have : (s.cd == 1) = false := by simp [h]
  rw [this, Bool.and_false]
theorem end_may {s : E} (hs : s.st ≤ 64) {c : Nat} (hc : c = 2 ∨ c = 3) : mayE (endE s c) = true := by
  rw [mayE_iff]
  refine ⟨?_, hs, fun _ => hc, fun h => (by cases h), fun _ => ⟨rfl, rfl, rfl, rfl⟩⟩
  show c ≤ 3
  omega
theorem take_key (s : E) (f : Nat → Nat) (p : Nat) (m2 : s.st ≤ 64) : (takeE s f p = endE s 3) ∨ (takeE s f p = endE { s with st := s.st + 1 } 3 ∧ s.st < 64) ∨ (s.st < 64 ∧ ∃ a b c d, 1 ≤ c ∧ c ≤ 65536 ∧ takeE s f p = { s with st := s.st + 1, hv := true, fr := a, tt := b, lf := c, nx := d }) := by
  unfold takeE
  generalize numF f (s.pl - 2147483648 + 8) 4 = c
  generalize numF f (s.pl - 2147483648 + 4) 4 = b
  generalize numF f (s.pl - 2147483648 + 12) 4 = d
  generalize numF f (s.pl - 2147483648) 4 = a
  split
  · exact .inl rfl
  · split
    · exact .inl rfl
    · split
      · exact .inr (.inl ⟨rfl, by omega⟩)
      · rename_i h1 h2 h3
        exact .inr (.inr ⟨by omega, a, b, c, d, by omega, by omega, rfl⟩)
theorem on_mv (s : E) : (onE s).mv = m32 (s.mv + burst s) := rfl
theorem end_mv (s : E) (c : Nat) : (endE s c).mv = s.mv := rfl
theorem no_mv (s : E) (q : Nat) : (noOrd { s with pl := q }).mv = s.mv := rfl
theorem on_hd (s : E) : (onE s).hd = s.hd := rfl
theorem end_hd (s : E) (c : Nat) : (endE s c).hd = s.hd := rfl
theorem no_hd (s : E) (q : Nat) : (noOrd { s with pl := q }).hd = s.hd := rfl
theorem m32_ne {a n : Nat} (ha : a < 4294967296) (h0 : 0 < n) (h1 : n ≤ 64) : m32 (a + n) ≠ a ∧ ((m32 (a + n) : Int) - a) % 4294967296 ≤ 64 := by unfold m32; omega
/-- All that a tick of a state that may be answers. -/
structure Tickd (s : E) (f : Nat → Nat) (p : Nat) : Prop where
  may : mayE (tickE s f p) = true
  hd : (tickE s f p).hd = s.hd
  less : ((tickE s f p).mv : Int) = s.mv ∨ ((((tickE s f p).mv : Int) - s.mv) % 4294967296 ≤ 64 ∧ (tickE s f p).mv ≠ s.mv)
  still : (tickE s f p).mv = s.mv → tickF s f p = f
  idle : s.cd ≠ 1 → tickE s f p = s
  on : s.cd = 1 → tickE s f p ≠ s
theorem tickd {s : E} (ok : s.Ok) (hm : mayE s = true) (f : Nat → Nat) (p : Nat) : Tickd s f p := by
  obtain ⟨m1, m2, m3, m4, m5⟩ := (mayE_iff s).1 hm
  by_cases hc : s.cd = 1
  · have hg := goes_of hm hc
    have hak : s.ak = false := by
      cases h : s.ak with
      | false => rfl
      | true => have := m3 h; omega
    cases hv : s.hv with
    | false =>
      have eF : tickF s f p = f := by unfold tickF; rw [hg, hv]; exact if_neg (by decide)
      have eE : tickE s f p = takeE s f p := by unfold tickE; rw [hg, if_pos rfl, hv, if_neg (by decide)]
      have key : (takeE s f p = endE s 3) ∨ (takeE s f p = endE { s with st := s.st + 1 } 3 ∧ s.st < 64) ∨ (s.st < 64 ∧ ∃ a b c d, 1 ≤ c ∧ c ≤ 65536 ∧ takeE s f p = { s with st := s.st + 1, hv := true, fr := a, tt := b, lf := c, nx := d }) := by
        exact take_key s f p m2
      rcases key with e | ⟨e, hs⟩ | ⟨hs, a, b, c, d, hc1, hc2, e⟩
      · exact { may := by rw [eE, e]; exact end_may m2 (.inr rfl), hd := by rw [eE, e]; rfl, less := .inl (by rw [eE, e]; rfl), still := fun _ => eF, idle := fun h => absurd hc h, on := fun _ h => by rw [eE, e] at h; have := congrArg E.cd h; rw [hc] at this; cases this }
      · exact { may := by rw [eE, e]; exact end_may (show s.st + 1 ≤ 64 by omega) (.inr rfl), hd := by rw [eE, e]; rfl, less := .inl (by rw [eE, e]; rfl), still := fun _ => eF, idle := fun h => absurd hc h, on := fun _ h => by rw [eE, e] at h; have := congrArg E.cd h; rw [hc] at this; cases this }
      · refine { may := ?_, hd := by rw [eE, e], less := .inl (by rw [eE, e]), still := fun _ => eF, idle := fun h => absurd hc h, on := fun _ h => by rw [eE, e] at h; have := congrArg E.hv h; rw [hv] at this; cases this }
        rw [eE, e, mayE_iff]
        exact ⟨m1, (show s.st + 1 ≤ 64 by omega), fun h => (by have h2 : s.ak = true := h; rw [hak] at h2; cases h2), fun _ => ⟨hc, hc1, hc2⟩, fun h => (by cases h)⟩
    | true =>
      obtain ⟨_, hl1, hl2⟩ := m4 hv
      obtain ⟨b0, b64, bl⟩ : 0 < burst s ∧ burst s ≤ 64 ∧ burst s ≤ s.lf := by unfold burst; split <;> omega
      have eE : tickE s f p = moveE s p := by unfold tickE; rw [hg, if_pos rfl, hv, if_pos rfl]
      have eF : tickF s f p = moveF s f p := by unfold tickF; rw [hg, hv]; exact if_pos (by decide)
      have hmv := ok.mv
      obtain ⟨hne, hle⟩ := m32_ne hmv b0 b64
      cases hcan : canE s p with
      | false =>
        have e : moveE s p = endE s 3 := by unfold moveE; rw [if_pos hcan]
        have e2 : moveF s f p = f := by unfold moveF; rw [if_pos hcan]
        exact { may := by rw [eE, e]; exact end_may m2 (.inr rfl), hd := by rw [eE, e]; rfl, less := .inl (by rw [eE, e]; rfl), still := fun _ => eF.trans e2, idle := fun h => absurd hc h, on := fun _ h => by rw [eE, e] at h; have := congrArg E.cd h; rw [hc] at this; cases this }
      | true =>
        have key : (burst s < s.lf ∧ moveE s p = onE s) ∨ moveE s p = endE (onE s) 2 ∨ moveE s p = noOrd { onE s with pl := s.nx } := by
          unfold moveE
          rw [if_neg (by rw [hcan]; decide)]
          split
          · rename_i h; exact .inl ⟨h, rfl⟩
          · split
            · exact .inr (.inl rfl)
            · exact .inr (.inr rfl)
        have hmvE : (moveE s p).mv = m32 (s.mv + burst s) := by
          rcases key with ⟨_, e⟩ | e | e
          · rw [e, on_mv]
          · rw [e, end_mv, on_mv]
          · rw [e, no_mv, on_mv]
        have hhdE : (moveE s p).hd = s.hd := by
          rcases key with ⟨_, e⟩ | e | e
          · rw [e, on_hd]
          · rw [e, end_hd, on_hd]
          · rw [e, no_hd, on_hd]
        refine { may := ?_, hd := by rw [eE]; exact hhdE, less := .inr (by rw [eE, hmvE]; exact ⟨hle, hne⟩), still := fun h => absurd (by rw [← hmvE, ← eE]; exact h) hne, idle := fun h => absurd hc h, on := fun _ h => absurd (by rw [← hmvE, ← eE, h]) hne }
        rw [eE]
        rcases key with ⟨hlt, e⟩ | e | e
        · rw [e, mayE_iff]
          exact ⟨m1, m2, m3, fun _ => ⟨hc, (show 1 ≤ s.lf - burst s by omega), (show s.lf - burst s ≤ 65536 by omega)⟩, fun h => (by have h2 : s.hv = false := h; rw [hv] at h2; cases h2)⟩
        · rw [e]; exact end_may m2 (.inl rfl)
        · rw [e, mayE_iff]
          exact ⟨m1, m2, m3, fun h => (by cases h), fun _ => ⟨rfl, rfl, rfl, rfl⟩⟩
  · have hg := goes_not hc
    have eE : tickE s f p = s := by unfold tickE; rw [hg]; exact if_neg (by decide)
    have eF : tickF s f p = f := by unfold tickF; rw [hg]; exact if_neg (by rw [Bool.false_and]; decide)
    exact { may := by rw [eE]; exact hm, hd := by rw [eE], less := .inl (by rw [eE]), still := fun _ => eF, idle := fun _ => eE, on := fun h => absurd h hc }
end Go.Proofs.YtalcgipcephnnaaDoor
namespace Go.Proofs.YtalcgipcephnnaaDoor
open Go.RowKit
set_option linter.unusedVariables false
set_option linter.unusedSimpArgs false

attribute [local go_sem] E.at0 E.at1 E.at2 E.at3 E.at4 E.at5 E.at6 E.at7 E.at8 E.at9 E.at10
theorem PairsAt.up {w w' : World} {B B' : Nat} {la : Option Addr} {len : Nat} {g : Nat → Nat → Nat} (h : PairsAt w B la len g) (hb : Below B w w') (hB : B ≤ B') : PairsAt w' B' la len g :=
  ⟨fun j hj => by
    obtain ⟨b, o, e, h1, h2, h3⟩ := h.lies j hj
    exact ⟨b, o, e, Nat.lt_of_lt_of_le h1 hB, (hb.cell (p := ⟨b, o + j * 2, none⟩) h1).trans h2, (hb.cell (p := ⟨b, o + j * 2 + 1, none⟩) h1).trans h3⟩, h.small⟩
theorem AreasAt.low {w w' : World} {B : Nat} (h : AreasAt w) (hb : Below B w w') (hG : 1 < B) : AreasAt w' := by
  intro d hd
  obtain ⟨h1, h2, h3⟩ := h d hd
  exact ⟨(hb.cell (p := ⟨1, d * 3, none⟩) hG).trans h1, (hb.cell (p := ⟨1, d * 3 + 1, none⟩) hG).trans h2, (hb.cell (p := ⟨1, d * 3 + 2, none⟩) hG).trans h3⟩
set_option maxHeartbeats 4000000 in
set_option maxRecDepth 20000 in
theorem holds_no (s : E) (ok : s.Ok) (la : Option Addr) (len cap : Nat) (g : Nat → Nat → Nat) (w : World) (hl : PairsAt w w.heap.size la len g) (hlc : len ≤ cap) (hcm : cap ≤ 9223372036854775807) (hA : AreasAt w) (hm : mayE s = false) :
    Calls Tryd.prog 5 #[.agg s.cells, .slice la len cap] w fun e w' => e = .returned (.bool true) ∧ Below w.heap.size w w' := by
  obtain ⟨B, hB⟩ : ∃ B, w.heap.size = B := ⟨_, rfl⟩
  have hG : 1 < B := hB ▸ hA.lt
  have HBo : Hid (∀ W, Below B w W → W.heap.size = B + 1 → Calls Tryd.prog 17 #[.slice la len cap] W fun e w' => ∃ b f O r, e = .returned (.tuple #[.pointer (some ⟨b, 0, none⟩), .agg (r.v 8192 2)]) ∧ RamB w' (B + 1 + 1) b 2 f 40 O ∧ RefB w' (B + 1 + 1) 8192 2 f r O ∧ Below (B + 1) W w') := hide (fun W hb hz => by
    have hp : PairsAt W W.heap.size la len g := (hB ▸ hl).up hb (by omega)
    have h := both_any la len cap g W hp hlc hcm
    rw [hz] at h
    exact h)
  have HSu : Hid (∀ W, AreasAt W → Calls Tryd.prog 16 #[] W fun e w' => e = .returned (.bool true) ∧ Below W.heap.size W w') := hide (fun W hA => sure_any W hA)
  have hA0 := hA
  rw [hB]
  clear hl hA
  have HC := hide (fun w => echeck_any s w)
  rw [chk_false hm] at HC
  go_enter Tryd.func5, Tryd.ntmps5
  go_wp2_with (first | ((with_reducible refine bx_er B s ?_ ?_ ?_); exact hB; exact rfl; intro W hg hb hz) | (go_at_call 17; (with_reducible refine (HBo.out _ hb hz.out).mono ?_); rintro e W1 ⟨b, f, O, r, rfl, hM, hR, hbc⟩; have hlg := hz.out; replace hg : RowAt W1 B s.cells 24 := (hbc.block B (by omega)).trans hg; replace hb := hb.trans (hbc.mono (by omega)); obtain ⟨NX, hNX0⟩ : ∃ n, W1.heap.size = n := ⟨_, rfl⟩; have hNX := hide hNX0; have hNB : B + 1 + 1 ≤ NX := hNX0 ▸ hM.base; have hnx : ¬ O NX := (fun e => absurd (hM.lt _ e) (by omega)); have hrx : ¬ r.owns NX := (fun e => absurd (hR.ref.lt e) (by omega)); have hny : ¬ O (NX + 1) := (fun e => absurd (hM.lt _ e) (by omega)); have hgb : ¬ O B := (fun e => absurd (hM.low _ e) (by omega)); clear hNX0 hbc hz hlg) | ((with_reducible refine al_Rz NX ?_ ?_); exact hNX.out; intro W hx hb' hzx; have hbc : Below W1.heap.size W1 W := (by rw [hNX.out]; exact hb'); replace hb := hb.trans (hb'.mono (by omega)); replace hM := hM.bl hbc; replace hR := hR.bl hbc; replace hg := hg.bl hbc; clear hb' hbc) | ((with_reducible refine st_R NX _ r 8192 2 hx ?_ ?_ ?_ ?_); exact rfl; exact rfl; exact rfl; intro W hnew hoo; replace hM := hM.only hoo hnx; replace hR := hR.only hoo hrx; replace hg := hg.only hoo (by omega); replace hb := hoo.bel _ _ (by omega) hb; replace hx := hnew; have hzy : Hid (W.heap.size = NX + 1) := hide (hoo.size.trans hzx.out); clear hnew hoo) | ((with_reducible refine ld_er B _ hg ?_ ?_ ?_); exact rfl; exact rfl) | ((with_reducible refine al_ep (NX + 1) ?_ ?_); exact hzy.out; intro W hy hb' hz2; have hsz := hzy.out; replace hM := hM.bl (hsz ▸ hb'); replace hR := hR.bl (hsz ▸ hb'); replace hg := hg.bl (hsz ▸ hb'); replace hx := hx.bl (hsz ▸ hb'); replace hb := hb.trans (hb'.mono (by omega)); clear hb' hsz) | ((with_reducible refine st_ep (NX + 1) _ s hy ?_ ?_ ?_); exact rfl; exact rfl; intro W hnew hoo; replace hM := hM.only hoo hny; replace hb := hoo.bel _ _ (by omega) hb; replace hy := hnew; have hA := hA0.low (hB ▸ hb) (hB ▸ hG); clear hnew hoo) | ((with_reducible refine ld_ep (NX + 1) _ hy ?_ ?_ ?_); exact rfl; exact rfl) | (go_at_call 14; (with_reducible refine (HC.out _).mono ?_); rintro e W ⟨rfl, hbc⟩; replace hM := hM.bl hbc; replace hy := hy.bl hbc; replace hA := hA.bl hbc; replace hb := hb.trans (hbc.mono (by have := hM.base; have := hb.size; omega))) | (go_at_call 16; (with_reducible refine (HSu.out _ hA).mono ?_); rintro e W9 ⟨rfl, hbs⟩; replace hb := hb.trans (hbs.mono (by have := hb.size; omega))))
  go_ret
  exact ⟨rfl, hb⟩
set_option maxHeartbeats 4000000 in
set_option maxRecDepth 20000 in
theorem holds_yes (s : E) (ok : s.Ok) (la : Option Addr) (len cap : Nat) (g : Nat → Nat → Nat) (w : World) (hl : PairsAt w w.heap.size la len g) (hlc : len ≤ cap) (hcm : cap ≤ 9223372036854775807) (hA : AreasAt w) (hm : mayE s = true) :
    Calls Tryd.prog 5 #[.agg s.cells, .slice la len cap] w fun e w' => e = .returned (.bool true) ∧ Below w.heap.size w w' := by
  obtain ⟨B, hB⟩ : ∃ B, w.heap.size = B := ⟨_, rfl⟩
  have hG : 1 < B := hB ▸ hA.lt
  have HBo : Hid (∀ W, Below B w W → W.heap.size = B + 1 → Calls Tryd.prog 17 #[.slice la len cap] W fun e w' => ∃ b f O r, e = .returned (.tuple #[.pointer (some ⟨b, 0, none⟩), .agg (r.v 8192 2)]) ∧ RamB w' (B + 1 + 1) b 2 f 40 O ∧ RefB w' (B + 1 + 1) 8192 2 f r O ∧ Below (B + 1) W w') := hide (fun W hb hz => by
    have hp : PairsAt W W.heap.size la len g := (hB ▸ hl).up hb (by omega)
    have h := both_any la len cap g W hp hlc hcm
    rw [hz] at h
    exact h)
  have HSu : Hid (∀ W, AreasAt W → Calls Tryd.prog 16 #[] W fun e w' => e = .returned (.bool true) ∧ Below W.heap.size W w') := hide (fun W hA => sure_any W hA)
  have hA0 := hA
  rw [hB]
  clear hl hA
  have HC := hide (fun w => echeck_any s w)
  rw [chk_true hm] at HC
  go_enter Tryd.func5, Tryd.ntmps5
  go_wp2_with (first | ((with_reducible refine bx_er B s ?_ ?_ ?_); exact hB; exact rfl; intro W hg hb hz) | (go_at_call 17; (with_reducible refine (HBo.out _ hb hz.out).mono ?_); rintro e W1 ⟨b, f, O, r, rfl, hM, hR, hbc⟩; have hlg := hz.out; replace hg : RowAt W1 B s.cells 24 := (hbc.block B (by omega)).trans hg; replace hb := hb.trans (hbc.mono (by omega)); obtain ⟨NX, hNX0⟩ : ∃ n, W1.heap.size = n := ⟨_, rfl⟩; have hNX := hide hNX0; have hNB : B + 1 + 1 ≤ NX := hNX0 ▸ hM.base; have hnx : ¬ O NX := (fun e => absurd (hM.lt _ e) (by omega)); have hrx : ¬ r.owns NX := (fun e => absurd (hR.ref.lt e) (by omega)); have hny : ¬ O (NX + 1) := (fun e => absurd (hM.lt _ e) (by omega)); have hgb : ¬ O B := (fun e => absurd (hM.low _ e) (by omega)); clear hNX0 hbc hz hlg) | ((with_reducible refine al_Rz NX ?_ ?_); exact hNX.out; intro W hx hb' hzx; have hbc : Below W1.heap.size W1 W := (by rw [hNX.out]; exact hb'); replace hb := hb.trans (hb'.mono (by omega)); replace hM := hM.bl hbc; replace hR := hR.bl hbc; replace hg := hg.bl hbc; clear hb' hbc) | ((with_reducible refine st_R NX _ r 8192 2 hx ?_ ?_ ?_ ?_); exact rfl; exact rfl; exact rfl; intro W hnew hoo; replace hM := hM.only hoo hnx; replace hR := hR.only hoo hrx; replace hg := hg.only hoo (by omega); replace hb := hoo.bel _ _ (by omega) hb; replace hx := hnew; have hzy : Hid (W.heap.size = NX + 1) := hide (hoo.size.trans hzx.out); clear hnew hoo) | ((with_reducible refine ld_er B _ hg ?_ ?_ ?_); exact rfl; exact rfl) | ((with_reducible refine al_ep (NX + 1) ?_ ?_); exact hzy.out; intro W hy hb' hz2; have hsz := hzy.out; replace hM := hM.bl (hsz ▸ hb'); replace hR := hR.bl (hsz ▸ hb'); replace hg := hg.bl (hsz ▸ hb'); replace hx := hx.bl (hsz ▸ hb'); replace hb := hb.trans (hb'.mono (by omega)); clear hb' hsz) | ((with_reducible refine st_ep (NX + 1) _ s hy ?_ ?_ ?_); exact rfl; exact rfl; intro W hnew hoo; replace hM := hM.only hoo hny; replace hb := hoo.bel _ _ (by omega) hb; replace hy := hnew; have hA := hA0.low (hB ▸ hb) (hB ▸ hG); clear hnew hoo) | ((with_reducible refine ld_ep (NX + 1) _ hy ?_ ?_ ?_); exact rfl; exact rfl) | (go_at_call 14; (with_reducible refine (HC.out _).mono ?_); rintro e W ⟨rfl, hbc⟩; replace hM := hM.bl hbc; replace hy := hy.bl hbc; replace hA := hA.bl hbc; replace hb := hb.trans (hbc.mono (by have := hM.base; have := hb.size; omega))))
  obtain ⟨NY, hNY⟩ : ∃ n, NX + 1 = n := ⟨_, rfl⟩
  have hNYB : B + 1 + 1 ≤ NY := by omega
  have hRs := hM.more (show 40 ≤ 40 + 0 by omega)
  simp only [hNY] at *
  clear hx hR hg hNY hz2 hzx hzy hNX hnx hrx hgb HC HBo hNB
  go_loopw [8] (fun iv wr => ∃ (k : Nat) (x : E) (f : Nat → Nat) (O : Nat → Prop), k ≤ 60 ∧ iv = .int .i64 (k : Nat) ∧ x.Ok ∧ mayE x = true ∧ RamB wr (B + 1 + 1) b 2 f (40 + k) O ∧ RowAt wr NY x.cells 29 ∧ ¬ O NY ∧ Below B w wr) (fun iv _ => 60 - (intOf iv).toNat)
  case atStart => exact ⟨0, s, f, O, Nat.zero_le _, rfl, ok, hm, hRs, hy, hny, hb⟩
  case round =>
    clear hRs hM hy hny hb hA
    obtain ⟨k, x, f, O, hk, rfl, okx, hmx, hM, hy, hny, hb⟩ := hrel
    have hA := hA0.low (hB ▸ hb) (hB ▸ hG)
    by_cases hlt : k < 60
    · have lt1 : (k : Int) < 60 := by omega
      have hT := tickd okx hmx f 2
      have okz := tickE_ok okx (hM.small) 2
      have HT : Hid (∀ W O1, RamB W (B + 1 + 1) b 2 f (40 + k) O1 → AreasAt W → Calls Tryd.prog 18 #[.agg x.cells, .pointer (some ⟨b, 0, none⟩)] W fun e w' => e = .returned (.agg (tickE x f 2).cells) ∧ ∃ O', RamB w' (B + 1 + 1) b 2 (tickF x f 2) (40 + k + 1) O' ∧ Went (B + 1 + 1) O1 O' W w') := hide (fun W O1 hM hA => etick_any x okx hM hA (by omega) (by omega))
      obtain ⟨z, hz⟩ : ∃ z, tickE x f 2 = z := ⟨_, rfl⟩
      obtain ⟨f2, hf2⟩ : ∃ z, tickF x f 2 = z := ⟨_, rfl⟩
      have hTm := hT.may
      have hTh := hT.hd
      have hTl := hT.less
      have hTs := hT.still
      have hTi := hT.idle
      have hTo := hT.on
      rw [hz] at hTm hTh hTl hTs hTi hTo okz HT
      rw [hf2] at hTs HT
      have HCl : Hid (∀ W O1, RamB W (B + 1 + 1) b 2 f (40 + k) O1 → Calls Tryd.prog 21 #[.pointer (some ⟨b, 0, none⟩)] W fun e w' => ∃ b2 O2, e = .returned (.pointer (some ⟨b2, 0, none⟩)) ∧ RamB w' W.heap.size b2 2 f (40 + k) O2 ∧ Below W.heap.size W w') := hide (fun W O1 hM => clone_b hM)
      have HC : Hid (∀ W, Calls Tryd.prog 14 #[.agg z.cells] W fun e w' => e = .returned .nilIface ∧ Below W.heap.size W w') := hide (fun W => by have h := echeck_any z W; rw [chk_true hTm] at h; exact h)
      have HSa : Hid (∀ W O1 O2 b2, z.mv = x.mv → RamB W (B + 1 + 1) b 2 f2 (40 + k + 1) O1 → RamB W (B + 1 + 1) b2 2 f (40 + k) O2 → (∀ y, O1 y → ¬ O2 y) → Calls Tryd.prog 22 #[.pointer (some ⟨b, 0, none⟩), .pointer (some ⟨b2, 0, none⟩)] W fun e w' => e = .returned (.bool true) ∧ ∃ O', RamB w' (B + 1 + 1) b 2 f2 (40 + k + 1) O' ∧ Went (B + 1 + 1) (fun x => O1 x ∨ O2 x) O' W w' ∧ ∀ x, x < W.heap.size → O' x → O1 x) := hide (fun W O1 O2 b2 he h1 h2 hx => by
        refine (same_b h1 h2 hx).mono ?_
        rintro e w' ⟨⟨t, rfl, ht⟩, O', h3, h4, h5⟩
        have : t = true := ht.2 (fun x _ => by rw [hTs he])
        subst this
        exact ⟨rfl, O', h3, h4, h5⟩)
      clear hT hz hf2 hTs
      have hd1 : ((z.hd : Int) == (x.hd : Int)) = true := by rw [hTh]; simp
      by_cases hcd : x.cd = 1
      · have tc : ((x.cd : Int) == 1) = true := (castq x.cd 1).trans (by simp [hcd])
        have heq : eqE z x = false := by
          cases h : eqE z x with
          | false => rfl
          | true => exact absurd (eqE_iff.1 h) (hTo hcd)
        clear hTi hTo
        by_cases hme : z.mv = x.mv
        · have tm : ((z.mv : Int) == (x.mv : Int)) = true := (castq _ _).trans (by simp [hme])
          have hle : (((z.mv : Int) - (x.mv : Int)) % 4294967296 ≤ 64) := by rcases hTl with e | e <;> omega
          have hle2 : decide ((64 : Int) < ((z.mv : Int) - (x.mv : Int)) % 4294967296) = false := by simp; omega
          go_wp2_with (first | (go_at_call 21; (with_reducible refine (HCl.out _ _ hM).mono ?_); rintro e W1 ⟨b2, O2, rfl, hM2, hbc⟩; have hny2 : ¬ O2 NY := (fun e => absurd (hM2.low _ e) (by have := hy.lt; omega)); have hdis : ∀ y, O2 y → ¬ O y := (fun y h1 h2 => absurd (hM.lt y h2) (by have := hM2.low y h1; omega)); replace hM2 := hM2.lower hM.base; replace hM := hM.bl hbc; replace hA := hA.bl hbc; replace hy := hy.bl hbc; have hBw := hM.base; replace hb := hb.trans (hbc.mono (by have := hb.size; omega)); clear hbc) | ((with_reducible refine ld_ep NY _ hy ?_ ?_ ?_); exact rfl; exact rfl) | (go_at_call 18; (with_reducible refine (HT.out _ _ hM hA).mono ?_); rintro e W2 ⟨rfl, O3, hM3, hW3⟩; have hdis3 : ∀ y, O3 y → ¬ O2 y := (fun y h1 h2 => hdis y h2 (hW3.own y (hM2.lt y h2) h1)); have hny3 := hW3.no hy.lt hny; replace hy := hW3.row hy hny; replace hM2 := hM2.beside hW3 hdis; replace hA := hA.went (by omega) hW3; replace hb := hb.trans (hW3.below.mono (by omega)); clear hM hdis hny hW3; have hM := hM3; have hny := hny3; clear hM3 hny3; obtain ⟨NZ, hNZ0⟩ : ∃ n, W2.heap.size = n := ⟨_, rfl⟩; have hNZ := hide hNZ0; have hNZB : B + 1 + 1 ≤ NZ := hNZ0 ▸ hM.base; have hnz : ¬ O3 NZ := (fun e => absurd (hM.lt _ e) (by omega)); have hnz2 : ¬ O2 NZ := (fun e => absurd (hM2.lt _ e) (by omega)); have hyz : NY < NZ := hNZ0 ▸ hy.lt; clear hNZ0) | ((with_reducible refine al_ep NZ ?_ ?_); exact hNZ.out; intro W hq hb' hz2; have hbc : Below W2.heap.size W2 W := (by rw [hNZ.out]; exact hb'); replace hM := hM.bl hbc; replace hM2 := hM2.bl hbc; replace hA := hA.bl hbc; replace hy := hy.bl hbc; replace hb := hb.trans (hb'.mono (by omega)); clear hb' hbc) | ((with_reducible refine st_ep NZ _ z hq ?_ ?_ ?_); exact rfl; exact rfl; intro W hnew hoo; replace hM := hM.only hoo hnz; replace hM2 := hM2.only hoo hnz2; replace hA := hA.only2 hoo (by omega); replace hy := hy.only hoo (by omega); replace hb := hoo.bel _ _ (by omega) hb; replace hq := hnew; have fy := hy.cell; have fq := hq.cell; clear hnew hoo) | ((with_reducible refine ld_ep NZ _ hq ?_ ?_ ?_); exact rfl; exact rfl) | (go_at_call 14; (with_reducible refine (HC.out _).mono ?_); rintro e W ⟨rfl, hbc⟩; replace hM := hM.bl hbc; replace hM2 := hM2.bl hbc; replace hy := hy.bl hbc; replace hq := hq.bl hbc; replace hA := hA.bl hbc; replace fy := hy.cell; replace fq := hq.cell; replace hb := hb.trans (hbc.mono (by have := hb.size; omega)); clear hbc) | ((with_reducible refine g_eqe z x ?_ ?_ ?_ ?_); exact rfl; exact rfl; exact rfl; (try rw [heq])) | (go_at_call 16; (with_reducible refine (HSu.out _ hA).mono ?_); rintro e W9 ⟨rfl, hbs⟩; replace hb := hb.trans (hbs.mono (by have := hb.size; omega))) | (go_at_call 22; (with_reducible refine (HSa.out _ _ _ _ hme hM hM2 hdis3).mono ?_); rintro e W5 ⟨rfl, O5, hM5, hW5, ho5⟩; have hny5 : ¬ O5 NY := (fun e => hny (ho5 _ hy.lt e)); replace hy := hW5.row hy (fun e => e.elim hny hny2); replace hq := hW5.row hq (fun e => e.elim hnz hnz2); replace hA := hA.went (by omega) hW5; replace fy := hy.cell; replace fq := hq.cell; replace hb := hb.trans (hW5.below.mono (by omega)); clear hM hW5 hM2; have hM := hM5; clear hM5) | ((with_reducible refine st_ep NY _ z hy ?_ ?_ ?_); exact rfl; exact rfl; intro W hnew hoo; replace hM := hM.only hoo hny5; replace hb := hoo.bel _ _ (by omega) hb; replace hy := hnew; clear hnew hoo))
          go_roundw
          case rel => exact ⟨k + 1, z, f2, _, by omega, by go_num, okz, hTm, by (rw [← Nat.add_assoc]; exact hM), hy, hny5, hb⟩
          case measure => simp [intOf]; omega
        · have tm : ((z.mv : Int) == (x.mv : Int)) = false := (castq _ _).trans (by simp [hme])
          have hle : (((z.mv : Int) - (x.mv : Int)) % 4294967296 ≤ 64) := by rcases hTl with e | e <;> omega
          have hle2 : decide ((64 : Int) < ((z.mv : Int) - (x.mv : Int)) % 4294967296) = false := by simp; omega
          go_wp2_with (first | (go_at_call 21; (with_reducible refine (HCl.out _ _ hM).mono ?_); rintro e W1 ⟨b2, O2, rfl, hM2, hbc⟩; have hny2 : ¬ O2 NY := (fun e => absurd (hM2.low _ e) (by have := hy.lt; omega)); have hdis : ∀ y, O2 y → ¬ O y := (fun y h1 h2 => absurd (hM.lt y h2) (by have := hM2.low y h1; omega)); replace hM2 := hM2.lower hM.base; replace hM := hM.bl hbc; replace hA := hA.bl hbc; replace hy := hy.bl hbc; have hBw := hM.base; replace hb := hb.trans (hbc.mono (by have := hb.size; omega)); clear hbc) | ((with_reducible refine ld_ep NY _ hy ?_ ?_ ?_); exact rfl; exact rfl) | (go_at_call 18; (with_reducible refine (HT.out _ _ hM hA).mono ?_); rintro e W2 ⟨rfl, O3, hM3, hW3⟩; have hdis3 : ∀ y, O3 y → ¬ O2 y := (fun y h1 h2 => hdis y h2 (hW3.own y (hM2.lt y h2) h1)); have hny3 := hW3.no hy.lt hny; replace hy := hW3.row hy hny; replace hM2 := hM2.beside hW3 hdis; replace hA := hA.went (by omega) hW3; replace hb := hb.trans (hW3.below.mono (by omega)); clear hM hdis hny hW3; have hM := hM3; have hny := hny3; clear hM3 hny3; obtain ⟨NZ, hNZ0⟩ : ∃ n, W2.heap.size = n := ⟨_, rfl⟩; have hNZ := hide hNZ0; have hNZB : B + 1 + 1 ≤ NZ := hNZ0 ▸ hM.base; have hnz : ¬ O3 NZ := (fun e => absurd (hM.lt _ e) (by omega)); have hnz2 : ¬ O2 NZ := (fun e => absurd (hM2.lt _ e) (by omega)); have hyz : NY < NZ := hNZ0 ▸ hy.lt; clear hNZ0) | ((with_reducible refine al_ep NZ ?_ ?_); exact hNZ.out; intro W hq hb' hz2; have hbc : Below W2.heap.size W2 W := (by rw [hNZ.out]; exact hb'); replace hM := hM.bl hbc; replace hM2 := hM2.bl hbc; replace hA := hA.bl hbc; replace hy := hy.bl hbc; replace hb := hb.trans (hb'.mono (by omega)); clear hb' hbc) | ((with_reducible refine st_ep NZ _ z hq ?_ ?_ ?_); exact rfl; exact rfl; intro W hnew hoo; replace hM := hM.only hoo hnz; replace hM2 := hM2.only hoo hnz2; replace hA := hA.only2 hoo (by omega); replace hy := hy.only hoo (by omega); replace hb := hoo.bel _ _ (by omega) hb; replace hq := hnew; have fy := hy.cell; have fq := hq.cell; clear hnew hoo) | ((with_reducible refine ld_ep NZ _ hq ?_ ?_ ?_); exact rfl; exact rfl) | (go_at_call 14; (with_reducible refine (HC.out _).mono ?_); rintro e W ⟨rfl, hbc⟩; replace hM := hM.bl hbc; replace hM2 := hM2.bl hbc; replace hy := hy.bl hbc; replace hq := hq.bl hbc; replace hA := hA.bl hbc; replace fy := hy.cell; replace fq := hq.cell; replace hb := hb.trans (hbc.mono (by have := hb.size; omega)); clear hbc) | ((with_reducible refine g_eqe z x ?_ ?_ ?_ ?_); exact rfl; exact rfl; exact rfl; (try rw [heq])) | (go_at_call 16; (with_reducible refine (HSu.out _ hA).mono ?_); rintro e W9 ⟨rfl, hbs⟩; replace hb := hb.trans (hbs.mono (by have := hb.size; omega))) | ((with_reducible refine st_ep NY _ z hy ?_ ?_ ?_); exact rfl; exact rfl; intro W hnew hoo; replace hM := hM.only hoo hny; replace hb := hoo.bel _ _ (by omega) hb; replace hy := hnew; clear hnew hoo))
          go_roundw
          case rel => exact ⟨k + 1, z, f2, _, by omega, by go_num, okz, hTm, by (rw [← Nat.add_assoc]; exact hM), hy, hny, hb⟩
          case measure => simp [intOf]; omega
      · have tc : ((x.cd : Int) == 1) = false := (castq x.cd 1).trans (by simp [hcd])
        have heq : eqE z x = true := eqE_iff.2 (hTi hcd)
        have hme : z.mv = x.mv := by rw [hTi hcd]
        clear hTi hTo
        have tm : ((z.mv : Int) == (x.mv : Int)) = true := (castq _ _).trans (by simp [hme])
        have hle : (((z.mv : Int) - (x.mv : Int)) % 4294967296 ≤ 64) := by rcases hTl with e | e <;> omega
        have hle2 : decide ((64 : Int) < ((z.mv : Int) - (x.mv : Int)) % 4294967296) = false := by simp; omega
        go_wp2_with (first | (go_at_call 21; (with_reducible refine (HCl.out _ _ hM).mono ?_); rintro e W1 ⟨b2, O2, rfl, hM2, hbc⟩; have hny2 : ¬ O2 NY := (fun e => absurd (hM2.low _ e) (by have := hy.lt; omega)); have hdis : ∀ y, O2 y → ¬ O y := (fun y h1 h2 => absurd (hM.lt y h2) (by have := hM2.low y h1; omega)); replace hM2 := hM2.lower hM.base; replace hM := hM.bl hbc; replace hA := hA.bl hbc; replace hy := hy.bl hbc; have hBw := hM.base; replace hb := hb.trans (hbc.mono (by have := hb.size; omega)); clear hbc) | ((with_reducible refine ld_ep NY _ hy ?_ ?_ ?_); exact rfl; exact rfl) | (go_at_call 18; (with_reducible refine (HT.out _ _ hM hA).mono ?_); rintro e W2 ⟨rfl, O3, hM3, hW3⟩; have hdis3 : ∀ y, O3 y → ¬ O2 y := (fun y h1 h2 => hdis y h2 (hW3.own y (hM2.lt y h2) h1)); have hny3 := hW3.no hy.lt hny; replace hy := hW3.row hy hny; replace hM2 := hM2.beside hW3 hdis; replace hA := hA.went (by omega) hW3; replace hb := hb.trans (hW3.below.mono (by omega)); clear hM hdis hny hW3; have hM := hM3; have hny := hny3; clear hM3 hny3; obtain ⟨NZ, hNZ0⟩ : ∃ n, W2.heap.size = n := ⟨_, rfl⟩; have hNZ := hide hNZ0; have hNZB : B + 1 + 1 ≤ NZ := hNZ0 ▸ hM.base; have hnz : ¬ O3 NZ := (fun e => absurd (hM.lt _ e) (by omega)); have hnz2 : ¬ O2 NZ := (fun e => absurd (hM2.lt _ e) (by omega)); have hyz : NY < NZ := hNZ0 ▸ hy.lt; clear hNZ0) | ((with_reducible refine al_ep NZ ?_ ?_); exact hNZ.out; intro W hq hb' hz2; have hbc : Below W2.heap.size W2 W := (by rw [hNZ.out]; exact hb'); replace hM := hM.bl hbc; replace hM2 := hM2.bl hbc; replace hA := hA.bl hbc; replace hy := hy.bl hbc; replace hb := hb.trans (hb'.mono (by omega)); clear hb' hbc) | ((with_reducible refine st_ep NZ _ z hq ?_ ?_ ?_); exact rfl; exact rfl; intro W hnew hoo; replace hM := hM.only hoo hnz; replace hM2 := hM2.only hoo hnz2; replace hA := hA.only2 hoo (by omega); replace hy := hy.only hoo (by omega); replace hb := hoo.bel _ _ (by omega) hb; replace hq := hnew; have fy := hy.cell; have fq := hq.cell; clear hnew hoo) | ((with_reducible refine ld_ep NZ _ hq ?_ ?_ ?_); exact rfl; exact rfl) | (go_at_call 14; (with_reducible refine (HC.out _).mono ?_); rintro e W ⟨rfl, hbc⟩; replace hM := hM.bl hbc; replace hM2 := hM2.bl hbc; replace hy := hy.bl hbc; replace hq := hq.bl hbc; replace hA := hA.bl hbc; replace fy := hy.cell; replace fq := hq.cell; replace hb := hb.trans (hbc.mono (by have := hb.size; omega)); clear hbc) | ((with_reducible refine g_eqe z x ?_ ?_ ?_ ?_); exact rfl; exact rfl; exact rfl; (try rw [heq])) | (go_at_call 16; (with_reducible refine (HSu.out _ hA).mono ?_); rintro e W9 ⟨rfl, hbs⟩; replace hb := hb.trans (hbs.mono (by have := hb.size; omega))) | (go_at_call 22; (with_reducible refine (HSa.out _ _ _ _ hme hM hM2 hdis3).mono ?_); rintro e W5 ⟨rfl, O5, hM5, hW5, ho5⟩; have hny5 : ¬ O5 NY := (fun e => hny (ho5 _ hy.lt e)); replace hy := hW5.row hy (fun e => e.elim hny hny2); replace hq := hW5.row hq (fun e => e.elim hnz hnz2); replace hA := hA.went (by omega) hW5; replace fy := hy.cell; replace fq := hq.cell; replace hb := hb.trans (hW5.below.mono (by omega)); clear hM hW5 hM2; have hM := hM5; clear hM5))
        go_ret
        exact ⟨rfl, hb⟩
    · obtain rfl : k = 60 := by omega
      go_wp2_with (first | (go_at_call 16; (with_reducible refine (HSu.out _ hA).mono ?_); rintro e W9 ⟨rfl, hbs⟩; replace hb := hb.trans (hbs.mono (by have := hb.size; omega))))
      go_ret
      exact ⟨rfl, hb⟩
theorem holds_walk (s : E) (ok : s.Ok) (la : Option Addr) (len cap : Nat) (g : Nat → Nat → Nat) (w : World) (hl : PairsAt w w.heap.size la len g) (hlc : len ≤ cap) (hcm : cap ≤ 9223372036854775807) (hA : AreasAt w) :
    Calls Tryd.prog 5 #[.agg s.cells, .slice la len cap] w fun e w' => e = .returned (.bool true) ∧ Below w.heap.size w w' := by
  cases hm : mayE s with
  | false => exact holds_no s ok la len cap g w hl hlc hcm hA hm
  | true => exact holds_yes s ok la len cap g w hl hlc hcm hA hm
end Go.Proofs.YtalcgipcephnnaaDoor
namespace Go.Proofs.YtalcgipcephnnaaDoor
open Go.RowKit
set_option linter.unusedVariables false
set_option linter.unusedSimpArgs false

attribute [local go_sem] E.at0 E.at1 E.at2 E.at3 E.at4 E.at5 E.at6 E.at7 E.at8 E.at9 E.at10
theorem ticks_eq (z : Int) (n : Nat) (hn : 0 < n) (hn2 : n ≤ 1000000) : wrap64 ((IntKind.u64.wrap z).tmod (n : Int)) = ((z % 18446744073709551616 % (n : Int)).toNat : Int) := by
  have h0 : 0 ≤ z % 18446744073709551616 := by omega
  have e : IntKind.u64.wrap z = z % 18446744073709551616 := IntKind.wrap_u64 z
  rw [e, Int.tmod_eq_emod_of_nonneg h0]
  have h1 : 0 ≤ z % 18446744073709551616 % (n : Int) := Int.emod_nonneg _ (by omega)
  have h2 : z % 18446744073709551616 % (n : Int) < n := Int.emod_lt_of_pos _ (by omega)
  rw [Int.toNat_of_nonneg h1]
  unfold wrap64
  omega
theorem stop_acc {x : E} (h : mayE x = true) : accE x 0 = 0 := by unfold accE; rw [h]; rfl
theorem stop_w {x : E} (h : mayE x = true) : writeE x 0 2 = { zeroE with hd := x.hd, mv := x.mv } := by
  unfold writeE setE goE
  rw [if_pos (stop_acc h), if_pos rfl, if_neg (by omega), if_pos rfl]
set_option maxHeartbeats 4000000 in
set_option maxRecDepth 20000 in
theorem stops_no (s : E) (ok : s.Ok) (tk : Int) (la : Option Addr) (len cap : Nat) (g : Nat → Nat → Nat) (w : World) (hl : PairsAt w w.heap.size la len g) (hlc : len ≤ cap) (hcm : cap ≤ 9223372036854775807) (hA : AreasAt w) (hm : mayE s = false) :
    Calls Tryd.prog 8 #[.agg s.cells, .slice la len cap, .int .i64 tk] w fun e w' => e = .returned (.bool true) ∧ Below w.heap.size w w' := by
  obtain ⟨B, hB⟩ : ∃ B, w.heap.size = B := ⟨_, rfl⟩
  have hG : 1 < B := hB ▸ hA.lt
  have HBo : Hid (∀ W, Below B w W → W.heap.size = B + 1 → Calls Tryd.prog 17 #[.slice la len cap] W fun e w' => ∃ b f O r, e = .returned (.tuple #[.pointer (some ⟨b, 0, none⟩), .agg (r.v 8192 2)]) ∧ RamB w' (B + 1 + 1) b 2 f 40 O ∧ RefB w' (B + 1 + 1) 8192 2 f r O ∧ Below (B + 1) W w') := hide (fun W hb hz => by
    have hp : PairsAt W W.heap.size la len g := (hB ▸ hl).up hb (by omega)
    have h := both_any la len cap g W hp hlc hcm
    rw [hz] at h
    exact h)
  have HSu : Hid (∀ W, AreasAt W → Calls Tryd.prog 16 #[] W fun e w' => e = .returned (.bool true) ∧ Below W.heap.size W w') := hide (fun W hA => sure_any W hA)
  have hA0 := hA
  rw [hB]
  clear hl hA
  have HC := hide (fun w => echeck_any s w)
  rw [chk_false hm] at HC
  go_enter Tryd.func8, Tryd.ntmps8
  go_wp2_with (first | ((with_reducible refine bx_er B s ?_ ?_ ?_); exact hB; exact rfl; intro W hg hb hz) | (go_at_call 17; (with_reducible refine (HBo.out _ hb hz.out).mono ?_); rintro e W1 ⟨b, f, O, r, rfl, hM, hR, hbc⟩; have hlg := hz.out; replace hg : RowAt W1 B s.cells 24 := (hbc.block B (by omega)).trans hg; replace hb := hb.trans (hbc.mono (by omega)); obtain ⟨NX, hNX0⟩ : ∃ n, W1.heap.size = n := ⟨_, rfl⟩; have hNX := hide hNX0; have hNB : B + 1 + 1 ≤ NX := hNX0 ▸ hM.base; have hnx : ¬ O NX := (fun e => absurd (hM.lt _ e) (by omega)); have hrx : ¬ r.owns NX := (fun e => absurd (hR.ref.lt e) (by omega)); have hny : ¬ O (NX + 1) := (fun e => absurd (hM.lt _ e) (by omega)); have hgb : ¬ O B := (fun e => absurd (hM.low _ e) (by omega)); clear hNX0 hbc hz hlg) | ((with_reducible refine al_Rz NX ?_ ?_); exact hNX.out; intro W hx hb' hzx; have hbc : Below W1.heap.size W1 W := (by rw [hNX.out]; exact hb'); replace hb := hb.trans (hb'.mono (by omega)); replace hM := hM.bl hbc; replace hR := hR.bl hbc; replace hg := hg.bl hbc; clear hb' hbc) | ((with_reducible refine st_R NX _ r 8192 2 hx ?_ ?_ ?_ ?_); exact rfl; exact rfl; exact rfl; intro W hnew hoo; replace hM := hM.only hoo hnx; replace hR := hR.only hoo hrx; replace hg := hg.only hoo (by omega); replace hb := hoo.bel _ _ (by omega) hb; replace hx := hnew; have hzy : Hid (W.heap.size = NX + 1) := hide (hoo.size.trans hzx.out); clear hnew hoo) | ((with_reducible refine ld_er B _ hg ?_ ?_ ?_); exact rfl; exact rfl) | ((with_reducible refine al_ep (NX + 1) ?_ ?_); exact hzy.out; intro W hy hb' hz2; have hsz := hzy.out; replace hM := hM.bl (hsz ▸ hb'); replace hR := hR.bl (hsz ▸ hb'); replace hg := hg.bl (hsz ▸ hb'); replace hx := hx.bl (hsz ▸ hb'); replace hb := hb.trans (hb'.mono (by omega)); clear hb' hsz) | ((with_reducible refine st_ep (NX + 1) _ s hy ?_ ?_ ?_); exact rfl; exact rfl; intro W hnew hoo; replace hM := hM.only hoo hny; replace hb := hoo.bel _ _ (by omega) hb; replace hy := hnew; have hA := hA0.low (hB ▸ hb) (hB ▸ hG); clear hnew hoo) | ((with_reducible refine ld_ep (NX + 1) _ hy ?_ ?_ ?_); exact rfl; exact rfl) | (go_at_call 14; (with_reducible refine (HC.out _).mono ?_); rintro e W ⟨rfl, hbc⟩; replace hM := hM.bl hbc; replace hy := hy.bl hbc; replace hA := hA.bl hbc; replace hb := hb.trans (hbc.mono (by have := hM.base; have := hb.size; omega))) | (go_at_call 16; (with_reducible refine (HSu.out _ hA).mono ?_); rintro e W9 ⟨rfl, hbs⟩; replace hb := hb.trans (hbs.mono (by have := hb.size; omega))))
  go_ret
  exact ⟨rfl, hb⟩
set_option maxHeartbeats 4000000 in
set_option maxRecDepth 20000 in
theorem stops_yes (s : E) (ok : s.Ok) (tk : Int) (la : Option Addr) (len cap : Nat) (g : Nat → Nat → Nat) (w : World) (hl : PairsAt w w.heap.size la len g) (hlc : len ≤ cap) (hcm : cap ≤ 9223372036854775807) (hA : AreasAt w) (hm : mayE s = true) :
    Calls Tryd.prog 8 #[.agg s.cells, .slice la len cap, .int .i64 tk] w fun e w' => e = .returned (.bool true) ∧ Below w.heap.size w w' := by
  obtain ⟨B, hB⟩ : ∃ B, w.heap.size = B := ⟨_, rfl⟩
  have hG : 1 < B := hB ▸ hA.lt
  have HBo : Hid (∀ W, Below B w W → W.heap.size = B + 1 → Calls Tryd.prog 17 #[.slice la len cap] W fun e w' => ∃ b f O r, e = .returned (.tuple #[.pointer (some ⟨b, 0, none⟩), .agg (r.v 8192 2)]) ∧ RamB w' (B + 1 + 1) b 2 f 40 O ∧ RefB w' (B + 1 + 1) 8192 2 f r O ∧ Below (B + 1) W w') := hide (fun W hb hz => by
    have hp : PairsAt W W.heap.size la len g := (hB ▸ hl).up hb (by omega)
    have h := both_any la len cap g W hp hlc hcm
    rw [hz] at h
    exact h)
  have HSu : Hid (∀ W, AreasAt W → Calls Tryd.prog 16 #[] W fun e w' => e = .returned (.bool true) ∧ Below W.heap.size W w') := hide (fun W hA => sure_any W hA)
  have hA0 := hA
  rw [hB]
  clear hl hA
  have HC := hide (fun w => echeck_any s w)
  rw [chk_true hm] at HC
  obtain ⟨T, hTe⟩ : ∃ T : Nat, (tk % 18446744073709551616 % ((8 : Nat) : Int)).toNat = T := ⟨_, rfl⟩
  have hT8 : T < 8 := by omega
  have htk : wrap64 ((IntKind.u64.wrap tk).tmod 8) = (T : Int) := by rw [← hTe]; exact ticks_eq tk 8 (by decide) (by decide)
  clear hTe
  go_enter Tryd.func8, Tryd.ntmps8
  go_wp2_with (first | ((with_reducible refine bx_er B s ?_ ?_ ?_); exact hB; exact rfl; intro W hg hb hz) | (go_at_call 17; (with_reducible refine (HBo.out _ hb hz.out).mono ?_); rintro e W1 ⟨b, f, O, r, rfl, hM, hR, hbc⟩; have hlg := hz.out; replace hg : RowAt W1 B s.cells 24 := (hbc.block B (by omega)).trans hg; replace hb := hb.trans (hbc.mono (by omega)); obtain ⟨NX, hNX0⟩ : ∃ n, W1.heap.size = n := ⟨_, rfl⟩; have hNX := hide hNX0; have hNB : B + 1 + 1 ≤ NX := hNX0 ▸ hM.base; have hnx : ¬ O NX := (fun e => absurd (hM.lt _ e) (by omega)); have hrx : ¬ r.owns NX := (fun e => absurd (hR.ref.lt e) (by omega)); have hny : ¬ O (NX + 1) := (fun e => absurd (hM.lt _ e) (by omega)); have hgb : ¬ O B := (fun e => absurd (hM.low _ e) (by omega)); clear hNX0 hbc hz hlg) | ((with_reducible refine al_Rz NX ?_ ?_); exact hNX.out; intro W hx hb' hzx; have hbc : Below W1.heap.size W1 W := (by rw [hNX.out]; exact hb'); replace hb := hb.trans (hb'.mono (by omega)); replace hM := hM.bl hbc; replace hR := hR.bl hbc; replace hg := hg.bl hbc; clear hb' hbc) | ((with_reducible refine st_R NX _ r 8192 2 hx ?_ ?_ ?_ ?_); exact rfl; exact rfl; exact rfl; intro W hnew hoo; replace hM := hM.only hoo hnx; replace hR := hR.only hoo hrx; replace hg := hg.only hoo (by omega); replace hb := hoo.bel _ _ (by omega) hb; replace hx := hnew; have hzy : Hid (W.heap.size = NX + 1) := hide (hoo.size.trans hzx.out); clear hnew hoo) | ((with_reducible refine ld_er B _ hg ?_ ?_ ?_); exact rfl; exact rfl) | ((with_reducible refine al_ep (NX + 1) ?_ ?_); exact hzy.out; intro W hy hb' hz2; have hsz := hzy.out; replace hM := hM.bl (hsz ▸ hb'); replace hR := hR.bl (hsz ▸ hb'); replace hg := hg.bl (hsz ▸ hb'); replace hx := hx.bl (hsz ▸ hb'); replace hb := hb.trans (hb'.mono (by omega)); clear hb' hsz) | ((with_reducible refine st_ep (NX + 1) _ s hy ?_ ?_ ?_); exact rfl; exact rfl; intro W hnew hoo; replace hM := hM.only hoo hny; replace hb := hoo.bel _ _ (by omega) hb; replace hy := hnew; have hA := hA0.low (hB ▸ hb) (hB ▸ hG); clear hnew hoo) | ((with_reducible refine ld_ep (NX + 1) _ hy ?_ ?_ ?_); exact rfl; exact rfl) | (go_at_call 14; (with_reducible refine (HC.out _).mono ?_); rintro e W ⟨rfl, hbc⟩; replace hM := hM.bl hbc; replace hy := hy.bl hbc; replace hA := hA.bl hbc; replace hb := hb.trans (hbc.mono (by have := hM.base; have := hb.size; omega))))
  obtain ⟨NY, hNY⟩ : ∃ n, NX + 1 = n := ⟨_, rfl⟩
  have hNYB : B + 1 + 1 ≤ NY := by omega
  have hRs := hM.more (show 40 ≤ 40 + 0 by omega)
  simp only [hNY] at *
  clear hx hR hg hNY hz2 hzx hzy hNX hnx hrx hgb HC HBo hNB
  go_loopw [10] (fun iv wr => ∃ (k : Nat) (x : E) (f : Nat → Nat) (O : Nat → Prop), k ≤ T ∧ iv = .int .i64 (k : Nat) ∧ x.Ok ∧ mayE x = true ∧ RamB wr (B + 1 + 1) b 2 f (40 + k) O ∧ RowAt wr NY x.cells 29 ∧ ¬ O NY ∧ Below B w wr) (fun iv _ => T - (intOf iv).toNat)
  case atStart => exact ⟨0, s, f, O, Nat.zero_le _, rfl, ok, hm, hRs, hy, hny, hb⟩
  case round =>
    clear hRs hM hy hny hb hA
    obtain ⟨k, x, f, O, hk, rfl, okx, hmx, hM, hy, hny, hb⟩ := hrel
    have hA := hA0.low (hB ▸ hb) (hB ▸ hG)
    by_cases hlt : k < T
    · have lt1 : (k : Int) < (T : Int) := by omega
      have hT := tickd okx hmx f 2
      have okz := tickE_ok okx (hM.small) 2
      have HT : Hid (∀ W O1, RamB W (B + 1 + 1) b 2 f (40 + k) O1 → AreasAt W → Calls Tryd.prog 18 #[.agg x.cells, .pointer (some ⟨b, 0, none⟩)] W fun e w' => e = .returned (.agg (tickE x f 2).cells) ∧ ∃ O', RamB w' (B + 1 + 1) b 2 (tickF x f 2) (40 + k + 1) O' ∧ Went (B + 1 + 1) O1 O' W w') := hide (fun W O1 hM hA => etick_any x okx hM hA (by omega) (by omega))
      obtain ⟨z, hz⟩ : ∃ z, tickE x f 2 = z := ⟨_, rfl⟩
      obtain ⟨f2, hf2⟩ : ∃ z, tickF x f 2 = z := ⟨_, rfl⟩
      have hTm := hT.may
      rw [hz] at hTm okz HT
      rw [hf2] at HT
      clear hT hz hf2
      go_wp2_with (first | ((with_reducible refine ld_ep NY _ hy ?_ ?_ ?_); exact rfl; exact rfl) | (go_at_call 18; (with_reducible refine (HT.out _ _ hM hA).mono ?_); rintro e W2 ⟨rfl, O3, hM3, hW3⟩; have hny3 := hW3.no hy.lt hny; replace hy := hW3.row hy hny; replace hb := hb.trans (hW3.below.mono (by omega)); clear hM hny hW3; have hM := hM3; have hny := hny3; clear hM3 hny3) | ((with_reducible refine st_ep NY _ z hy ?_ ?_ ?_); exact rfl; exact rfl; intro W hnew hoo; replace hM := hM.only hoo hny; replace hb := hoo.bel _ _ (by omega) hb; replace hy := hnew; clear hnew hoo))
      go_roundw
      case rel => exact ⟨k + 1, z, f2, _, by omega, by go_num, okz, hTm, by (rw [← Nat.add_assoc]; exact hM), hy, hny, hb⟩
      case measure => simp [intOf]; omega
    · have e9 : k = T := by omega
      have lt1 : decide ((k : Int) < (T : Int)) = false := by simp; omega
      have lt1n : decide (k < T) = false := by simp; omega
      clear e9 hlt
      obtain ⟨y, hye⟩ : ∃ y : E, y = { zeroE with hd := x.hd, mv := x.mv } := ⟨_, rfl⟩
      have oky : y.Ok := by rw [hye]; exact ⟨(by show 0 < 4294967296; decide), okx.hd, (by show 0 < 4294967296; decide), (by show 0 < 4294967296; decide), okx.mv, (by show 0 < 4294967296; decide), (by show 0 < 4294967296; decide), (by show 0 < 4294967296; decide), (by show 0 < 4294967296; decide)⟩
      have ycd : y.cd = 0 := by rw [hye]; rfl
      have HD : Hid (∀ W, AreasAt W → Calls Tryd.prog 11 #[.agg x.cells, .int .u32 0, .int .u32 2] W fun e w' => e = .returned (.tuple #[.agg y.cells, .nilIface]) ∧ Below W.heap.size W w') := hide (fun W hA => by
        have h := ewrite_any x 0 2 (by decide) W hA
        rw [stop_w hmx, ← hye, stop_acc hmx] at h
        exact h)
      have HT : Hid (∀ W O1, RamB W (B + 1 + 1) b 2 f (40 + k) O1 → AreasAt W → Calls Tryd.prog 18 #[.agg y.cells, .pointer (some ⟨b, 0, none⟩)] W fun e w' => e = .returned (.agg y.cells) ∧ ∃ O', RamB w' (B + 1 + 1) b 2 f (40 + k + 1) O' ∧ Went (B + 1 + 1) O1 O' W w') := hide (fun W O1 hM hA => by
        have h := etick_any y oky hM hA (by omega) (by omega)
        have hg : goes y = false := goes_not (by rw [ycd]; decide)
        have e1 : tickE y f 2 = y := by unfold tickE; rw [hg]; exact if_neg (by decide)
        have e2 : tickF y f 2 = f := by unfold tickF; rw [hg]; exact if_neg (by rw [Bool.false_and]; decide)
        rw [e1, e2] at h
        exact h)
      have HCl : Hid (∀ W O1, RamB W (B + 1 + 1) b 2 f (40 + k) O1 → Calls Tryd.prog 21 #[.pointer (some ⟨b, 0, none⟩)] W fun e w' => ∃ b2 O2, e = .returned (.pointer (some ⟨b2, 0, none⟩)) ∧ RamB w' W.heap.size b2 2 f (40 + k) O2 ∧ Below W.heap.size W w') := hide (fun W O1 hM => clone_b hM)
      have HSa : Hid (∀ W O1 O2 b2, RamB W (B + 1 + 1) b 2 f (40 + k + 1) O1 → RamB W (B + 1 + 1) b2 2 f (40 + k) O2 → (∀ y, O1 y → ¬ O2 y) → Calls Tryd.prog 22 #[.pointer (some ⟨b, 0, none⟩), .pointer (some ⟨b2, 0, none⟩)] W fun e w' => e = .returned (.bool true) ∧ ∃ O', RamB w' (B + 1 + 1) b 2 f (40 + k + 1) O' ∧ Went (B + 1 + 1) (fun x => O1 x ∨ O2 x) O' W w') := hide (fun W O1 O2 b2 h1 h2 hx => by
        refine (same_b h1 h2 hx).mono ?_
        rintro e w' ⟨⟨t, rfl, ht⟩, O', h3, h4, h5⟩
        have : t = true := ht.2 (fun x _ => rfl)
        subst this
        exact ⟨rfl, O', h3, h4⟩)
      have yh : ((y.hd : Int) == (x.hd : Int)) = true := by rw [hye]; simp
      have ym : ((y.mv : Int) == (x.mv : Int)) = true := by rw [hye]; simp
      have yc : ((y.cd : Int) == 0) = true := by rw [ycd]; rfl
      have ya : y.ak = false := by rw [hye]; rfl
      have heq : eqE y y = true := eqE_self y
      clear hye ycd
      go_wp2_with (first | ((with_reducible refine ld_ep NY _ hy ?_ ?_ ?_); exact rfl; exact rfl) | (go_at_call 11; (with_reducible refine (HD.out _ hA).mono ?_); rintro e W1 ⟨rfl, hbc⟩; have hBw := hM.base; replace hM := hM.bl hbc; replace hy := hy.bl hbc; replace hA := hA.bl hbc; replace hb := hb.trans (hbc.mono (by omega)); obtain ⟨NU, hNU0⟩ : ∃ n, W1.heap.size = n := ⟨_, rfl⟩; have hNU := hide hNU0; have hNUB : B + 1 + 1 ≤ NU := hNU0 ▸ hM.base; have hnu : ¬ O NU := (fun e => absurd (hM.lt _ e) (by omega)); have hyu : NY < NU := hNU0 ▸ hy.lt; clear hNU0 hbc) | ((with_reducible refine al_ep NU ?_ ?_); exact hNU.out; intro W hu hb' hz2; have hbc : Below W1.heap.size W1 W := (by rw [hNU.out]; exact hb'); replace hM := hM.bl hbc; replace hA := hA.bl hbc; replace hy := hy.bl hbc; replace hb := hb.trans (hb'.mono (by omega)); clear hb' hbc) | ((with_reducible refine st_ep NU _ y hu ?_ ?_ ?_); exact rfl; exact rfl; intro W hnew hoo; replace hM := hM.only hoo hnu; replace hA := hA.only2 hoo (by omega); replace hy := hy.only hoo (by omega); replace hb := hoo.bel _ _ (by omega) hb; replace hu := hnew; clear hnew hoo) | ((with_reducible refine ld_ep NU _ hu ?_ ?_ ?_); exact rfl; exact rfl) | (go_at_call 21; (with_reducible refine (HCl.out _ _ hM).mono ?_); rintro e W3 ⟨b2, O2, rfl, hM2, hbc⟩; have hny2 : ¬ O2 NY := (fun e => absurd (hM2.low _ e) (by have := hy.lt; omega)); have hnu2 : ¬ O2 NU := (fun e => absurd (hM2.low _ e) (by have := hu.lt; omega)); have hdis : ∀ y, O2 y → ¬ O y := (fun y h1 h2 => absurd (hM.lt y h2) (by have := hM2.low y h1; omega)); replace hM2 := hM2.lower hM.base; have hBw2 := hM.base; replace hM := hM.bl hbc; replace hA := hA.bl hbc; replace hy := hy.bl hbc; replace hu := hu.bl hbc; replace hb := hb.trans (hbc.mono (by omega)); clear hbc) | (go_at_call 18; (with_reducible refine (HT.out _ _ hM hA).mono ?_); rintro e W4 ⟨rfl, O3, hM3, hW3⟩; have hdis3 : ∀ y, O3 y → ¬ O2 y := (fun y h1 h2 => hdis y h2 (hW3.own y (hM2.lt y h2) h1)); have hny3 := hW3.no hy.lt hny; have hnu3 := hW3.no hu.lt hnu; replace hy := hW3.row hy hny; replace hu := hW3.row hu hnu; replace hM2 := hM2.beside hW3 hdis; replace hA := hA.went (by omega) hW3; replace hb := hb.trans (hW3.below.mono (by omega)); clear hM hdis hny hnu hW3; have hM := hM3; have hny := hny3; have hnu := hnu3; clear hM3 hny3 hnu3; obtain ⟨NZ, hNZ0⟩ : ∃ n, W4.heap.size = n := ⟨_, rfl⟩; have hNZ := hide hNZ0; have hNZB : B + 1 + 1 ≤ NZ := hNZ0 ▸ hM.base; have hnz : ¬ O3 NZ := (fun e => absurd (hM.lt _ e) (by omega)); have hnz2 : ¬ O2 NZ := (fun e => absurd (hM2.lt _ e) (by omega)); have hyz : NY < NZ := hNZ0 ▸ hy.lt; have huz : NU < NZ := hNZ0 ▸ hu.lt; clear hNZ0) | ((with_reducible refine al_ep NZ ?_ ?_); exact hNZ.out; intro W hq hb' hz2; have hbc : Below W4.heap.size W4 W := (by rw [hNZ.out]; exact hb'); replace hM := hM.bl hbc; replace hM2 := hM2.bl hbc; replace hA := hA.bl hbc; replace hy := hy.bl hbc; replace hu := hu.bl hbc; replace hb := hb.trans (hb'.mono (by omega)); clear hb' hbc) | ((with_reducible refine st_ep NZ _ y hq ?_ ?_ ?_); exact rfl; exact rfl; intro W hnew hoo; replace hM := hM.only hoo hnz; replace hM2 := hM2.only hoo hnz2; replace hA := hA.only2 hoo (by omega); replace hy := hy.only hoo (by omega); replace hu := hu.only hoo (by omega); replace hb := hoo.bel _ _ (by omega) hb; replace hq := hnew; have fy := hy.cell; have fu := hu.cell; clear hnew hoo) | ((with_reducible refine ld_ep NZ _ hq ?_ ?_ ?_); exact rfl; exact rfl) | (go_at_call 22; (with_reducible refine (HSa.out _ _ _ _ hM hM2 hdis3).mono ?_); rintro e W5 ⟨rfl, O5, hM5, hW5⟩; replace hy := hW5.row hy (fun e => e.elim hny hny2); replace hu := hW5.row hu (fun e => e.elim hnu hnu2); replace hA := hA.went (by omega) hW5; replace fy := hy.cell; replace fu := hu.cell; replace hb := hb.trans (hW5.below.mono (by omega)); clear hM hW5 hM2; have hM := hM5; clear hM5) | ((with_reducible refine g_eqe y y ?_ ?_ ?_ ?_); exact rfl; exact rfl; exact rfl; (try rw [heq])) | (go_at_call 16; (with_reducible refine (HSu.out _ hA).mono ?_); rintro e W9 ⟨rfl, hbs⟩; replace hb := hb.trans (hbs.mono (by have := hb.size; omega))))
      go_ret
      exact ⟨rfl, hb⟩
theorem stops_walk (s : E) (ok : s.Ok) (tk : Int) (la : Option Addr) (len cap : Nat) (g : Nat → Nat → Nat) (w : World) (hl : PairsAt w w.heap.size la len g) (hlc : len ≤ cap) (hcm : cap ≤ 9223372036854775807) (hA : AreasAt w) :
    Calls Tryd.prog 8 #[.agg s.cells, .slice la len cap, .int .i64 tk] w fun e w' => e = .returned (.bool true) ∧ Below w.heap.size w w' := by
  cases hm : mayE s with
  | false => exact stops_no s ok tk la len cap g w hl hlc hcm hA hm
  | true => exact stops_yes s ok tk la len cap g w hl hlc hcm hA hm
end Go.Proofs.YtalcgipcephnnaaDoor
