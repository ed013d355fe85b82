/-
  DmaTicks: of every state, any words in memory and any number of ticks: the state behind each tick, and all bytes of memory, are what the document says; of no memory nothing; what must come whatever the input is comes; the arguments stay. The one condition: the bus's map reads as the program's text lays it, to which the card ties it.
-/
import Derived.Test.YtalcgipcephnnaaDoorJDmStopW
import Derived.Test.YtalcgipcephnnaaDoorJDmRT5
import Derived.Test.YtalcgipcephnnaaDoorJDmOpen
import Derived.Test.YtalcgipcephnnaaDoorJDmLaid
import Derived.ProofKit
import Derived.OpenShut
import Derived.ChangeOld
import Derived.Below
namespace Go.Proofs.YtalcgipcephnnaaDoor
open Go.RowKit
set_option linter.unusedVariables false
set_option linter.unusedSimpArgs false

attribute [local go_sem] E.at0 E.at1 E.at2 E.at3 E.at4 E.at5 E.at6 E.at7 E.at8 E.at9 E.at10
theorem s_alloc {P : Program} {dst : Option Tmp} {ty t : TypeId} {pos : String} {after : Array Edge} {a : Act} {w : World} {Q : Exit → Act → World → Prop} {K : Act → World → Prop} (N : Nat) (hN : w.heap.size = N) (cs : Array Value) (hz : ∀ w, (zeroValue t).run P w = .ok (.agg cs) w)
    (k : ∀ W, RowAt W N cs t → Below N w W → Hid (W.heap.size = N + 1) → K (a.put dst (.pointer (some ⟨N, 0, none⟩))) W) :
    Oper.wp P ⟨dst, .alloc t, ty, pos, after, none⟩ a w K Q := by
  subst hN
  have hrun : (execOp a.eval ⟨dst, .alloc t, ty, pos, after, none⟩).run P w = .ok (.value (.pointer (some ⟨w.heap.size, 0, none⟩))) (w.alloc (.cells cs t)) := by
    unfold execOp
    simp only [Instr.alloc, Sem.run_bind, hz, Result.andThen_ok, newVar, newRow, run_newObj_alloc, Sem.run_pure]
    rfl
  unfold Oper.wp
  rw [hrun, Oper.upon_value]
  exact k _ (RowAt.new w _ cs t rfl) (below_one w _) (hide (by simp))
variable {ops : Array Oper} {rest : List Oper} {dst : Option Tmp} {ty : TypeId} {after : Array Edge} {a : Act} {x : Operand} {gd : Option (Nat × Bool)} {pos : String} {w : World} {Q : Exit → Act → World → Prop} {parts : Array (Nat × Operand)} {S : World → Prop}
/-- Bytes as a text. -/
def textF (f : Nat → Nat) (N : Nat) : ByteArray := ⟨((List.range N).map fun j => UInt8.ofNat (f j)).toArray⟩
theorem conv_text {W : World} {g : Nat} {f : Nat → Nat} (hf : ∀ x, f x < 256) (h : HoldsAt W g 8192 5 (fun j => .int .u8 (f (0 + j) : Nat))) : (convert 43 9 (.slice (some ⟨g, 0, none⟩) 8192 8192)).run Tryd.prog W = .ok (.string (textF f 8192)) W :=
  conv_row (w := W) (g := g) (o := 0) (l := 8192) (c := 8192) (f := f) hf (fun j hj => by rw [Nat.zero_add, h.cell hj, Nat.zero_add])
theorem conv_ref {W : World} {f : Nat → Nat} {r : RP} (h : RefAt W 8192 2 f r) : (convert 43 9 (.slice (some ⟨r.gB, 0, none⟩) 8192 r.cB)).run Tryd.prog W = .ok (.string (textF f 8192)) W :=
  conv_row (w := W) (g := r.gB) (o := 0) (l := 8192) (c := r.cB) (f := f) h.small (fun j hj => by rw [Nat.zero_add, h.bytes.cell hj])
set_option maxHeartbeats 4000000 in
set_option maxRecDepth 20000 in
theorem ticks_walk (s : E) (ok : s.Ok) (tk : Int) (la : Option Addr) (len cap : Nat) (g : Nat → Nat → Nat) (w : World) (hl : PairsAt w w.heap.size la len g) (hlc : len ≤ cap) (hcm : cap ≤ 9223372036854775807) (hA : AreasAt w) :
    Calls Tryd.prog 4 #[.agg s.cells, .slice la len cap, .int .i64 tk] w fun e w' => e = .returned (.bool true) ∧ Below w.heap.size w w' := by
  obtain ⟨B, hB⟩ : ∃ B, w.heap.size = B := ⟨_, rfl⟩
  have hG : 1 < B := hB ▸ hA.lt
  have HBo : Hid (∀ W, Below B w W → W.heap.size = B + 1 → Calls Tryd.prog 17 #[.slice la len cap] W fun e w' => ∃ b f O r, e = .returned (.tuple #[.pointer (some ⟨b, 0, none⟩), .agg (r.v 8192 2)]) ∧ RamB w' (B + 1 + 1) b 2 f 40 O ∧ RefB w' (B + 1 + 1) 8192 2 f r O ∧ Below (B + 1) W w') := hide (fun W hb hz => by
    have hp : PairsAt W W.heap.size la len g := (hB ▸ hl).up hb (by omega)
    have h := both_any la len cap g W hp hlc hcm
    rw [hz] at h
    exact h)
  have HSu : Hid (∀ W, AreasAt W → Calls Tryd.prog 16 #[] W fun e w' => e = .returned (.bool true) ∧ Below W.heap.size W w') := hide (fun W hA => sure_any W hA)
  have hA0 := hA
  rw [hB]
  clear hl hA
  obtain ⟨T, hTe⟩ : ∃ T : Nat, (tk % 18446744073709551616 % ((12 : Nat) : Int)).toNat = T := ⟨_, rfl⟩
  have hT12 : T < 12 := by omega
  have htk : wrap64 ((IntKind.u64.wrap tk).tmod 12) = (T : Int) := by rw [← hTe]; exact ticks_eq tk 12 (by decide) (by decide)
  clear hTe
  have HTn : Hid (∀ W, Calls Tryd.prog 18 #[.agg s.cells, .pointer none] W fun e w' => e = .returned (.agg s.cells) ∧ Below W.heap.size W w') := hide (fun W => etick_nil s W)
  have heq : eqE s s = true := eqE_self s
  go_enter Tryd.func4, Tryd.ntmps4
  go_wp2_with (first | ((with_reducible refine bx_er B s ?_ ?_ ?_); exact hB; exact rfl; intro W hg hb hz) | (go_at_call 17; (with_reducible refine (HBo.out _ hb hz.out).mono ?_); rintro e W1 ⟨b, f, O, r, rfl, hM, hR, hbc⟩; have hlg := hz.out; replace hg : RowAt W1 B s.cells 24 := (hbc.block B (by omega)).trans hg; replace hb := hb.trans (hbc.mono (by omega)); obtain ⟨NX, hNX0⟩ : ∃ n, W1.heap.size = n := ⟨_, rfl⟩; have hNX := hide hNX0; have hNB : B + 1 + 1 ≤ NX := hNX0 ▸ hM.base; have hnx : ¬ O NX := (fun e => absurd (hM.lt _ e) (by omega)); have hrx : ¬ r.owns NX := (fun e => absurd (hR.ref.lt e) (by omega)); have hny : ¬ O (NX + 1) := (fun e => absurd (hM.lt _ e) (by omega)); have hgb : ¬ O B := (fun e => absurd (hM.low _ e) (by omega)); clear hNX0 hbc hz hlg) | ((with_reducible refine al_Rz NX ?_ ?_); exact hNX.out; intro W hx hb' hzx; have hbc : Below W1.heap.size W1 W := (by rw [hNX.out]; exact hb'); replace hb := hb.trans (hb'.mono (by omega)); replace hM := hM.bl hbc; replace hR := hR.bl hbc; replace hg := hg.bl hbc; clear hb' hbc) | ((with_reducible refine st_R NX _ r 8192 2 hx ?_ ?_ ?_ ?_); exact rfl; exact rfl; exact rfl; intro W hnew hoo; replace hM := hM.only hoo hnx; replace hR := hR.only hoo hrx; replace hg := hg.only hoo (by omega); replace hb := hoo.bel _ _ (by omega) hb; replace hx := hnew; have hzy : Hid (W.heap.size = NX + 1) := hide (hoo.size.trans hzx.out); clear hnew hoo))
  refine wp_region_held_drew (S := (fun V => RowAt V B s.cells 24)) (by kernel_rfl) ?_ (fun hHeld => ?_)
  · exact hg.dr
  replace hM := hM.dr
  replace hR := hR.dr
  replace hx := hx.dr
  replace hb := hb.drew
  generalize World.drew _ = V at hHeld hM hR hx hb ⊢
  clear hg
  refine wpAnyH_take (i := 0) (oi := ?oi1) (v := .pointer (some ⟨b, 0, none⟩)) ?hi1 (by kernel_rfl) (by kernel_rfl) (by kernel_rfl) ?hQ1 ?hy1 (by assumption) ?rest1
  case hi1 => (simp only [List.getElem?_toArray, List.getElem?_cons_zero]; rfl)
  case hQ1 => exact fun _ _ _ h => h
  case hy1 => exact Or.inl ⟨by rfl, by (intro w hSw; (try dsimp only at hSw); go_simp )⟩
  simp only [Act.put, List.setIfInBounds_toArray, List.set_cons_zero, List.set_cons_succ]
  refine wpAnyH_take (i := 1) (oi := ?oi2) (v := .bool false) ?hi2 (by kernel_rfl) (by kernel_rfl) (by kernel_rfl) ?hQ2 ?hy2 (by assumption) ?rest2
  case hi2 => (simp only [List.getElem?_toArray, List.getElem?_cons_zero, List.getElem?_cons_succ]; rfl)
  case hQ2 => exact fun _ _ _ h => h
  case hy2 => exact Or.inl ⟨by rfl, by (intro w hSw; (try dsimp only at hSw); go_simp )⟩
  simp only [Act.put, List.setIfInBounds_toArray, List.set_cons_zero, List.set_cons_succ]
  refine wpAnyH_take (i := 2) (oi := ?oi3) (v := .bool false) ?hi3 (by kernel_rfl) (by kernel_rfl) (by kernel_rfl) ?hQ3 ?hy3 (by assumption) ?rest3
  case hi3 => (simp only [List.getElem?_toArray, List.getElem?_cons_zero, List.getElem?_cons_succ]; rfl)
  case hQ3 => exact fun _ _ _ h => h
  case hy3 => exact Or.inl ⟨by rfl, by (intro w hSw; (try dsimp only at hSw); go_simp )⟩
  simp only [Act.put, List.setIfInBounds_toArray, List.set_cons_zero, List.set_cons_succ]
  refine wpAnyH_take (i := 3) (oi := ?oi4) (v := .agg s.cells) ?hi4 (by kernel_rfl) (by kernel_rfl) (by kernel_rfl) ?hQ4 ?hy4 (by assumption) ?rest4
  case hi4 => (simp only [List.getElem?_toArray, List.getElem?_cons_zero, List.getElem?_cons_succ]; rfl)
  case hQ4 => exact fun _ _ _ h => h
  case hy4 => exact y_er B s (fun V hV => hV) rfl rfl
  simp only [Act.put, List.setIfInBounds_toArray, List.set_cons_zero, List.set_cons_succ]
  refine wpAnyH_take (i := 5) (oi := ?oi5) (v := .agg s.cells) ?hi5 (by kernel_rfl) (by kernel_rfl) (by kernel_rfl) ?hQ5 ?hy5 (by assumption) ?rest5
  case hi5 => (simp only [List.getElem?_toArray, List.getElem?_cons_zero, List.getElem?_cons_succ]; rfl)
  case hQ5 => exact fun _ _ _ h => h
  case hy5 => exact y_er B s (fun V hV => hV) rfl rfl
  simp only [Act.put, List.setIfInBounds_toArray, List.set_cons_zero, List.set_cons_succ]
  refine wpAnyH_ready (rs := [4]) (by kernel_rfl) (by simp) ?_
  refine AllReadyH.cons (o := ?oi6) ?hi6 (fun K hK => ?_) AllReadyH.nil
  case hi6 => (simp only [List.getElem?_toArray, List.getElem?_cons_zero, List.getElem?_cons_succ]; rfl)
  rw [if_pos (by rfl)]
  go_simp
  (with_reducible refine (HTn.out _).mono ?_)
  rintro e V2 ⟨rfl, hbc⟩
  have hH2 := hide (hHeld.bl hbc)
  have hBV := hM.base
  replace hM := hM.bl hbc
  replace hR := hR.bl hbc
  replace hx := hx.bl hbc
  replace hb := hb.trans (hbc.mono (by omega))
  clear hHeld hbc
  go_simp
  refine hK.out _ _ ?_ (fun hHeld => ?_)
  · exact hH2.out
  clear hK K
  clear hH2
  refine wpAnyH_take (i := 6) (oi := ?oi7) (v := .bool (!eqE s s)) ?hi7 (by kernel_rfl) (by kernel_rfl) (by kernel_rfl) ?hQ7 ?hy7 (by assumption) ?rest7
  case hi7 => (simp only [List.getElem?_toArray, List.getElem?_cons_zero, List.getElem?_cons_succ]; rfl)
  case hQ7 => exact fun _ _ _ h => h
  case hy7 => exact y_nee s s rfl rfl rfl
  simp only [Act.put, List.setIfInBounds_toArray, List.set_cons_zero, List.set_cons_succ]
  rw [heq]
  refine wpAnyH_take (i := 7) (oi := ?oi8) (v := .bool false) ?hi8 (by kernel_rfl) (by kernel_rfl) (by kernel_rfl) ?hQ8 ?hy8 (by assumption) ?rest8
  case hi8 => (simp only [List.getElem?_toArray, List.getElem?_cons_zero, List.getElem?_cons_succ]; rfl)
  case hQ8 => exact fun _ _ _ h => h
  case hy8 => exact Or.inl ⟨by rfl, by (intro w hSw; (try dsimp only at hSw); go_simp )⟩
  simp only [Act.put, List.setIfInBounds_toArray, List.set_cons_zero, List.set_cons_succ]
  refine wpAnyH_done (by kernel_rfl) ?_ _
  have hg := hHeld
  clear hHeld
  go_wp2_with (fail)
  refine wp_region_held_drew (S := (fun V => RowAt V B s.cells 24)) (by kernel_rfl) ?_ (fun hHeld => ?_)
  · exact hg.dr
  replace hM := hM.dr
  replace hR := hR.dr
  replace hx := hx.dr
  replace hb := hb.drew
  generalize World.drew _ = V at hHeld hM hR hx hb ⊢
  clear hg
  refine wpAnyH_take (i := 0) (oi := ?oi9) (v := .agg s.cells) ?hi9 (by kernel_rfl) (by kernel_rfl) (by kernel_rfl) ?hQ9 ?hy9 (by assumption) ?rest9
  case hi9 => (simp only [List.getElem?_toArray, List.getElem?_cons_zero]; rfl)
  case hQ9 => exact fun _ _ _ h => h
  case hy9 => exact y_er B s (fun V hV => hV) rfl rfl
  simp only [Act.put, List.setIfInBounds_toArray, List.set_cons_zero, List.set_cons_succ]
  refine wpAnyH_take (i := 1) (oi := ?oi10) (v := .agg s.cells) ?hi10 (by kernel_rfl) (by kernel_rfl) (by kernel_rfl) ?hQ10 ?hy10 (by assumption) ?rest10
  case hi10 => (simp only [List.getElem?_toArray, List.getElem?_cons_zero, List.getElem?_cons_succ]; rfl)
  case hQ10 => exact fun _ _ _ h => h
  case hy10 => exact y_er B s (fun V hV => hV) rfl rfl
  simp only [Act.put, List.setIfInBounds_toArray, List.set_cons_zero, List.set_cons_succ]
  refine wpAnyH_ready (rs := [2, 3]) (by kernel_rfl) (by simp) ?_
  refine AllReadyH.cons (o := ?oi11) ?hi11 (fun K hK => ?b11) (AllReadyH.cons (o := ?oi12) ?hi12 (fun K hK => ?b12) AllReadyH.nil)
  case hi11 => (simp only [List.getElem?_toArray, List.getElem?_cons_zero, List.getElem?_cons_succ]; rfl)
  case hi12 => (simp only [List.getElem?_toArray, List.getElem?_cons_zero, List.getElem?_cons_succ]; rfl)
  case b11 =>
    obtain ⟨NY, hNY⟩ : ∃ n, V.heap.size = n := ⟨_, rfl⟩
    have lNY : B + 1 + 1 ≤ NY := by have := hM.base; omega
    have xNY : NX < NY := by have := hx.lt; omega
    have oNY : ¬ O NY := fun e => absurd (hM.lt _ e) (by omega)
    have qNY : ¬ r.owns NY := fun e => absurd (hR.ref.lt e) (by omega)
    replace hNY := hide hNY
    rw [if_pos (by rfl)]
    (with_reducible refine s_alloc NY ?_ _ zero_ep ?_)
    · exact hNY.out
    intro V hy hb' hzz
    have hbc := hNY.out ▸ hb'
    have hH2 := hide (hHeld.bl hbc)
    replace hM := hM.bl hbc
    replace hR := hR.bl hbc
    replace hx := hx.bl hbc
    replace hb := hb.trans (hb'.mono (by omega))
    simp only [Act.put, List.setIfInBounds_toArray, List.set_cons_zero, List.set_cons_succ]
    clear hHeld hb' hbc hzz
    refine hK.out _ _ ?_ (fun hHeld => ?_)
    · exact hH2.out
    clear hK K hH2
    refine wpAnyH_ready (rs := [3]) (by kernel_rfl) (by simp) ?_
    refine AllReadyH.cons (o := ?oi13) ?hi13 (fun K hK => ?_) AllReadyH.nil
    case hi13 => (simp only [List.getElem?_toArray, List.getElem?_cons_zero, List.getElem?_cons_succ]; rfl)
    obtain ⟨NZ, hNZ⟩ : ∃ n, V.heap.size = n := ⟨_, rfl⟩
    have lNZ : B + 1 + 1 ≤ NZ := by have := hM.base; omega
    have xNZ : NX < NZ := by have := hx.lt; omega
    have oNZ : ¬ O NZ := fun e => absurd (hM.lt _ e) (by omega)
    have qNZ : ¬ r.owns NZ := fun e => absurd (hR.ref.lt e) (by omega)
    replace hNZ := hide hNZ
    rw [if_pos (by rfl)]
    (with_reducible refine s_alloc NZ ?_ _ zero_er ?_)
    · exact hNZ.out
    intro V hv hb' hzz
    have hbc := hNZ.out ▸ hb'
    have hH2 := hide (hHeld.bl hbc)
    replace hM := hM.bl hbc
    replace hR := hR.bl hbc
    replace hx := hx.bl hbc
    have hyz : NY ≠ NZ := (by have := hy.lt; have := hNZ.out; omega)
    replace hy := hy.bl hbc
    replace hb := hb.trans (hb'.mono (by omega))
    simp only [Act.put, List.setIfInBounds_toArray, List.set_cons_zero, List.set_cons_succ]
    clear hHeld hb' hbc hzz
    refine hK.out _ _ ?_ (fun hHeld => ?_)
    · exact hH2.out
    clear hK K
    clear hH2
    refine wpAnyH_ready (rs := [4]) (by kernel_rfl) (by simp) ?_
    refine AllReadyH.cons (o := ?oi14) ?hi14 (fun K hK => ?_) AllReadyH.nil
    case hi14 => (simp only [List.getElem?_toArray, List.getElem?_cons_zero, List.getElem?_cons_succ]; rfl)
    rw [if_pos (by rfl)]
    (with_reducible refine s_ep NY _ s hy ?_ ?_ ?_)
    · exact rfl
    · exact rfl
    intro V hnew hoo
    have hH2 := hide (hHeld.only hoo (by omega))
    replace hM := hM.only hoo oNY
    replace hR := hR.only hoo qNY
    replace hx := hx.only hoo (by omega)
    replace hv := hv.only hoo (by omega)
    replace hb := hoo.bel _ _ (by omega) hb
    replace hy := hnew
    clear hHeld hnew hoo
    refine hK.out _ _ ?_ (fun hHeld => ?_)
    · exact hH2.out
    clear hK K
    clear hH2
    refine wpAnyH_ready (rs := [5]) (by kernel_rfl) (by simp) ?_
    refine AllReadyH.cons (o := ?oi15) ?hi15 (fun K hK => ?_) AllReadyH.nil
    case hi15 => (simp only [List.getElem?_toArray, List.getElem?_cons_zero, List.getElem?_cons_succ]; rfl)
    rw [if_pos (by rfl)]
    (with_reducible refine s_er NZ _ s hv ?_ ?_ ?_)
    · exact rfl
    · exact rfl
    intro V hnew hoo
    have hH2 := hide (hHeld.only hoo (by omega))
    replace hM := hM.only hoo oNZ
    replace hR := hR.only hoo qNZ
    replace hx := hx.only hoo (by omega)
    replace hy := hy.only hoo (by omega)
    replace hb := hoo.bel _ _ (by omega) hb
    replace hv := hnew
    clear hHeld hnew hoo
    refine hK.out _ _ ?_ (fun hHeld => ?_)
    · exact hH2.out
    clear hK K
    clear hH2
    refine wpAnyH_done (by kernel_rfl) ?_ _
    have hg := hHeld
    clear hHeld hg
    have hM0 := hM.more (show 40 ≤ 40 + 0 by omega)
    clear hM
    go_wp2_with (fail)
    go_loopw [11] (fun iv wr => ∃ (k : Nat) (x : E) (f : Nat → Nat) (O : Nat → Prop) (r : RP), k ≤ T + 1 ∧ iv = .int .i64 (k : Nat) ∧ x.Ok ∧ RamB wr (B + 1 + 1) b 2 f (40 + k) O ∧ RefB wr (B + 1 + 1) 8192 2 f r O ∧ RowAt wr NX (r.v 8192 2) 46 ∧ RowAt wr NY x.cells 29 ∧ RowAt wr NZ x.cells 24 ∧ ¬ O NX ∧ ¬ O NY ∧ ¬ O NZ ∧ ¬ r.owns NX ∧ ¬ r.owns NY ∧ ¬ r.owns NZ ∧ Below B w wr) (fun iv _ => T + 1 - (intOf iv).toNat)
    case atStart => exact ⟨0, s, f, O, r, Nat.zero_le _, rfl, ok, hM0, hR, hx, hy, hv, hnx, oNY, oNZ, hrx, qNY, qNZ, hb⟩
    case round =>
      clear hM0 hR hx hy hv hnx oNY oNZ hrx qNY qNZ hb hNY hNZ
      obtain ⟨k, x, f, O, r, hk, rfl, okx, hM, hR, hx, hy, hv, hnx, oNY, oNZ, hrx, qNY, qNZ, hb⟩ := hrel
      have hA := hA0.low (hB ▸ hb) (hB ▸ hG)
      by_cases hlt : k < T + 1
      · have lt1 : (k : Int) < 1 + (T : Int) := by omega
        have okz := tickE_ok okx (hM.small) 2
        have HT : Hid (∀ W O1, RamB W (B + 1 + 1) b 2 f (40 + k) O1 → AreasAt W → Calls Tryd.prog 18 #[.agg x.cells, .pointer (some ⟨b, 0, none⟩)] W fun e w' => e = .returned (.agg (tickE x f 2).cells) ∧ ∃ O', RamB w' (B + 1 + 1) b 2 (tickF x f 2) (40 + k + 1) O' ∧ Went (B + 1 + 1) O1 O' W w') := hide (fun W O1 hM hA => etick_any x okx hM hA (by omega) (by omega))
        have HRT : Hid (∀ W, RefAt W 8192 2 f r → Calls Tryd.prog 19 #[.agg x.cells, .agg (r.v 8192 2)] W fun e w' => ∃ r' : RP, e = .returned (.tuple #[.agg (tickE x f 2).cells, .agg (r'.v 8192 2)]) ∧ RefAt w' 8192 2 (tickF x f 2) r' ∧ (∀ x, r'.owns x → r.owns x ∨ W.heap.size ≤ x) ∧ Below W.heap.size W w') := hide (fun W hR => rtick_any x okx hR)
        obtain ⟨z, hz⟩ : ∃ z, tickE x f 2 = z := ⟨_, rfl⟩
        obtain ⟨f2, hf2⟩ : ∃ z, tickF x f 2 = z := ⟨_, rfl⟩
        rw [hz] at okz HT HRT
        rw [hf2] at HT HRT
        have heqz : eqE z z = true := eqE_self z
        clear hz hf2
        go_wp2_with (first | ((with_reducible refine ld_ep NY _ hy ?_ ?_ ?_); exact rfl; exact rfl) | ((with_reducible refine ld_er NZ _ hv ?_ ?_ ?_); exact rfl; exact rfl) | ((with_reducible refine ld_Rw NX _ 8192 2 hx ?_ ?_ ?_); exact rfl; exact rfl) | (go_at_call 18; (with_reducible refine (HT.out _ _ hM hA).mono ?_); rintro e W2 ⟨rfl, O3, hM3, hW3⟩; have n1 := hW3.no hx.lt hnx; have n2 := hW3.no hy.lt oNY; have n3 := hW3.no hv.lt oNZ; replace hx := hW3.row hx hnx; replace hy := hW3.row hy oNY; replace hv := hW3.row hv oNZ; replace hR := hR.went hW3; replace hb := hb.trans (hW3.below.mono (by omega)); clear hM hnx oNY oNZ hW3; have hM := hM3; have hnx := n1; have oNY := n2; have oNZ := n3; clear hM3 n1 n2 n3) | ((with_reducible refine st_ep NY _ z hy ?_ ?_ ?_); exact rfl; exact rfl; intro W hnew hoo; replace hM := hM.only hoo oNY; replace hR := hR.only hoo qNY; replace hx := hx.only hoo (by omega); replace hv := hv.only hoo (by omega); replace hb := hoo.bel _ _ (by omega) hb; replace hy := hnew; clear hnew hoo) | (go_at_call 19; (with_reducible refine (HRT.out _ hR.ref).mono ?_); rintro e W4 ⟨r2, rfl, hR2, hnw, hbc⟩; have q1 : ¬ r2.owns NX := (fun e => (hnw _ e).elim hrx (fun k => absurd hx.lt (by omega))); have q2 : ¬ r2.owns NY := (fun e => (hnw _ e).elim qNY (fun k => absurd hy.lt (by omega))); have q3 : ¬ r2.owns NZ := (fun e => (hnw _ e).elim qNZ (fun k => absurd hv.lt (by omega))); have hBW := hM.base; have hR3 := hR.next hM hR2 hnw; replace hM := hM.bl hbc; replace hx := hx.bl hbc; replace hy := hy.bl hbc; replace hv := hv.bl hbc; replace hb := hb.trans (hbc.mono (by omega)); clear hR hR2 hnw hbc hrx qNY qNZ; have hR := hR3; clear hR3) | ((with_reducible refine st_er NZ _ z hv ?_ ?_ ?_); exact rfl; exact rfl; intro W hnew hoo; replace hM := hM.only hoo oNZ; replace hR := hR.only hoo q3; replace hx := hx.only hoo (by omega); replace hy := hy.only hoo (by omega); replace hb := hoo.bel _ _ (by omega) hb; replace hv := hnew; clear hnew hoo) | ((with_reducible refine st_R NX _ r2 8192 2 hx ?_ ?_ ?_ ?_); exact rfl; exact rfl; exact rfl; intro W hnew hoo; replace hM := hM.only hoo hnx; replace hR := hR.only hoo q1; replace hy := hy.only hoo (by omega); replace hv := hv.only hoo (by omega); replace hb := hoo.bel _ _ (by omega) hb; replace hx := hnew; clear hnew hoo) | ((with_reducible refine g_nee z z ?_ ?_ ?_ ?_); exact rfl; exact rfl; exact rfl; (try rw [heqz])))
        go_roundw
        case rel => exact ⟨k + 1, z, f2, _, r2, by omega, by go_num, okz, by (rw [← Nat.add_assoc]; exact hM), hR, hx, hy, hv, hnx, oNY, oNZ, q1, q2, q3, hb⟩
        case measure => simp [intOf]; omega
      · have lt1 : decide ((k : Int) < 1 + (T : Int)) = false := by simp; omega
        have HRd : Hid (∀ W O1, RamB W (B + 1 + 1) b 2 f (40 + k) O1 → Calls Tryd.prog 20 #[.pointer (some ⟨b, 0, none⟩), .int .u32 0, .int .i64 8192] W fun e w' => e = .returned (.tuple #[.slice (some ⟨W.heap.size, 0, none⟩) 8192 8192, .nilIface]) ∧ HoldsAt w' W.heap.size 8192 5 (fun j => .int .u8 (f (0 + j) : Nat)) ∧ ∃ O', RamB w' (B + 1 + 1) b 2 f (40 + k) O' ∧ Went (B + 1 + 1) O1 O' W w' ∧ ¬ O' W.heap.size) := hide (fun W O1 hM => read_b hM 0 (by decide) 8192 (by decide) (by decide))
        have hsm := hM.small
        obtain ⟨tx, htx⟩ : ∃ t, textF f 8192 = t := ⟨_, rfl⟩
        go_wp2_with (first | (go_at_call 20; (with_reducible refine (HRd.out _ _ hM).mono ?_); rintro e W5 ⟨rfl, hH, O5, hM5, hW5, hno⟩; replace hx := hW5.row hx hnx; replace hR := hR.went hW5; replace hA := hA.went (by omega) hW5; replace hb := hb.trans (hW5.below.mono (by omega)); have cv1 := conv_text hsm hH; have cv2 := conv_ref hR.ref; rw [htx] at cv1 cv2; have fB : W5.cell? ⟨NX, 0, none⟩ = some (.slice (some ⟨r.gB, 0, none⟩) 8192 r.cB) := (hx.cell 0).trans rfl; clear hM hM5 hW5 hno hH) | (go_at_call 16; (with_reducible refine (HSu.out _ hA).mono ?_); rintro e W9 ⟨rfl, hbs⟩; replace hb := hb.trans (hbs.mono (by have := hb.size; omega))))
        go_ret
        exact ⟨rfl, hb⟩
  case b12 =>
    obtain ⟨NZ, hNZ⟩ : ∃ n, V.heap.size = n := ⟨_, rfl⟩
    have lNZ : B + 1 + 1 ≤ NZ := by have := hM.base; omega
    have xNZ : NX < NZ := by have := hx.lt; omega
    have oNZ : ¬ O NZ := fun e => absurd (hM.lt _ e) (by omega)
    have qNZ : ¬ r.owns NZ := fun e => absurd (hR.ref.lt e) (by omega)
    replace hNZ := hide hNZ
    rw [if_pos (by rfl)]
    (with_reducible refine s_alloc NZ ?_ _ zero_er ?_)
    · exact hNZ.out
    intro V hv hb' hzz
    have hbc := hNZ.out ▸ hb'
    have hH2 := hide (hHeld.bl hbc)
    replace hM := hM.bl hbc
    replace hR := hR.bl hbc
    replace hx := hx.bl hbc
    replace hb := hb.trans (hb'.mono (by omega))
    simp only [Act.put, List.setIfInBounds_toArray, List.set_cons_zero, List.set_cons_succ]
    clear hHeld hb' hbc hzz
    refine hK.out _ _ ?_ (fun hHeld => ?_)
    · exact hH2.out
    clear hK K hH2
    refine wpAnyH_ready (rs := [2]) (by kernel_rfl) (by simp) ?_
    refine AllReadyH.cons (o := ?oi16) ?hi16 (fun K hK => ?_) AllReadyH.nil
    case hi16 => (simp only [List.getElem?_toArray, List.getElem?_cons_zero, List.getElem?_cons_succ]; rfl)
    obtain ⟨NY, hNY⟩ : ∃ n, V.heap.size = n := ⟨_, rfl⟩
    have lNY : B + 1 + 1 ≤ NY := by have := hM.base; omega
    have xNY : NX < NY := by have := hx.lt; omega
    have oNY : ¬ O NY := fun e => absurd (hM.lt _ e) (by omega)
    have qNY : ¬ r.owns NY := fun e => absurd (hR.ref.lt e) (by omega)
    replace hNY := hide hNY
    rw [if_pos (by rfl)]
    (with_reducible refine s_alloc NY ?_ _ zero_ep ?_)
    · exact hNY.out
    intro V hy hb' hzz
    have hbc := hNY.out ▸ hb'
    have hH2 := hide (hHeld.bl hbc)
    replace hM := hM.bl hbc
    replace hR := hR.bl hbc
    replace hx := hx.bl hbc
    have hyz : NY ≠ NZ := (by have := hv.lt; have := hNY.out; omega)
    replace hv := hv.bl hbc
    replace hb := hb.trans (hb'.mono (by omega))
    simp only [Act.put, List.setIfInBounds_toArray, List.set_cons_zero, List.set_cons_succ]
    clear hHeld hb' hbc hzz
    refine hK.out _ _ ?_ (fun hHeld => ?_)
    · exact hH2.out
    clear hK K
    clear hH2
    refine wpAnyH_ready (rs := [4]) (by kernel_rfl) (by simp) ?_
    refine AllReadyH.cons (o := ?oi17) ?hi17 (fun K hK => ?_) AllReadyH.nil
    case hi17 => (simp only [List.getElem?_toArray, List.getElem?_cons_zero, List.getElem?_cons_succ]; rfl)
    rw [if_pos (by rfl)]
    (with_reducible refine s_ep NY _ s hy ?_ ?_ ?_)
    · exact rfl
    · exact rfl
    intro V hnew hoo
    have hH2 := hide (hHeld.only hoo (by omega))
    replace hM := hM.only hoo oNY
    replace hR := hR.only hoo qNY
    replace hx := hx.only hoo (by omega)
    replace hv := hv.only hoo (by omega)
    replace hb := hoo.bel _ _ (by omega) hb
    replace hy := hnew
    clear hHeld hnew hoo
    refine hK.out _ _ ?_ (fun hHeld => ?_)
    · exact hH2.out
    clear hK K
    clear hH2
    refine wpAnyH_ready (rs := [5]) (by kernel_rfl) (by simp) ?_
    refine AllReadyH.cons (o := ?oi18) ?hi18 (fun K hK => ?_) AllReadyH.nil
    case hi18 => (simp only [List.getElem?_toArray, List.getElem?_cons_zero, List.getElem?_cons_succ]; rfl)
    rw [if_pos (by rfl)]
    (with_reducible refine s_er NZ _ s hv ?_ ?_ ?_)
    · exact rfl
    · exact rfl
    intro V hnew hoo
    have hH2 := hide (hHeld.only hoo (by omega))
    replace hM := hM.only hoo oNZ
    replace hR := hR.only hoo qNZ
    replace hx := hx.only hoo (by omega)
    replace hy := hy.only hoo (by omega)
    replace hb := hoo.bel _ _ (by omega) hb
    replace hv := hnew
    clear hHeld hnew hoo
    refine hK.out _ _ ?_ (fun hHeld => ?_)
    · exact hH2.out
    clear hK K
    clear hH2
    refine wpAnyH_done (by kernel_rfl) ?_ _
    have hg := hHeld
    clear hHeld hg
    have hM0 := hM.more (show 40 ≤ 40 + 0 by omega)
    clear hM
    go_wp2_with (fail)
    go_loopw [11] (fun iv wr => ∃ (k : Nat) (x : E) (f : Nat → Nat) (O : Nat → Prop) (r : RP), k ≤ T + 1 ∧ iv = .int .i64 (k : Nat) ∧ x.Ok ∧ RamB wr (B + 1 + 1) b 2 f (40 + k) O ∧ RefB wr (B + 1 + 1) 8192 2 f r O ∧ RowAt wr NX (r.v 8192 2) 46 ∧ RowAt wr NY x.cells 29 ∧ RowAt wr NZ x.cells 24 ∧ ¬ O NX ∧ ¬ O NY ∧ ¬ O NZ ∧ ¬ r.owns NX ∧ ¬ r.owns NY ∧ ¬ r.owns NZ ∧ Below B w wr) (fun iv _ => T + 1 - (intOf iv).toNat)
    case atStart => exact ⟨0, s, f, O, r, Nat.zero_le _, rfl, ok, hM0, hR, hx, hy, hv, hnx, oNY, oNZ, hrx, qNY, qNZ, hb⟩
    case round =>
      clear hM0 hR hx hy hv hnx oNY oNZ hrx qNY qNZ hb hNY hNZ
      obtain ⟨k, x, f, O, r, hk, rfl, okx, hM, hR, hx, hy, hv, hnx, oNY, oNZ, hrx, qNY, qNZ, hb⟩ := hrel
      have hA := hA0.low (hB ▸ hb) (hB ▸ hG)
      by_cases hlt : k < T + 1
      · have lt1 : (k : Int) < 1 + (T : Int) := by omega
        have okz := tickE_ok okx (hM.small) 2
        have HT : Hid (∀ W O1, RamB W (B + 1 + 1) b 2 f (40 + k) O1 → AreasAt W → Calls Tryd.prog 18 #[.agg x.cells, .pointer (some ⟨b, 0, none⟩)] W fun e w' => e = .returned (.agg (tickE x f 2).cells) ∧ ∃ O', RamB w' (B + 1 + 1) b 2 (tickF x f 2) (40 + k + 1) O' ∧ Went (B + 1 + 1) O1 O' W w') := hide (fun W O1 hM hA => etick_any x okx hM hA (by omega) (by omega))
        have HRT : Hid (∀ W, RefAt W 8192 2 f r → Calls Tryd.prog 19 #[.agg x.cells, .agg (r.v 8192 2)] W fun e w' => ∃ r' : RP, e = .returned (.tuple #[.agg (tickE x f 2).cells, .agg (r'.v 8192 2)]) ∧ RefAt w' 8192 2 (tickF x f 2) r' ∧ (∀ x, r'.owns x → r.owns x ∨ W.heap.size ≤ x) ∧ Below W.heap.size W w') := hide (fun W hR => rtick_any x okx hR)
        obtain ⟨z, hz⟩ : ∃ z, tickE x f 2 = z := ⟨_, rfl⟩
        obtain ⟨f2, hf2⟩ : ∃ z, tickF x f 2 = z := ⟨_, rfl⟩
        rw [hz] at okz HT HRT
        rw [hf2] at HT HRT
        have heqz : eqE z z = true := eqE_self z
        clear hz hf2
        go_wp2_with (first | ((with_reducible refine ld_ep NY _ hy ?_ ?_ ?_); exact rfl; exact rfl) | ((with_reducible refine ld_er NZ _ hv ?_ ?_ ?_); exact rfl; exact rfl) | ((with_reducible refine ld_Rw NX _ 8192 2 hx ?_ ?_ ?_); exact rfl; exact rfl) | (go_at_call 18; (with_reducible refine (HT.out _ _ hM hA).mono ?_); rintro e W2 ⟨rfl, O3, hM3, hW3⟩; have n1 := hW3.no hx.lt hnx; have n2 := hW3.no hy.lt oNY; have n3 := hW3.no hv.lt oNZ; replace hx := hW3.row hx hnx; replace hy := hW3.row hy oNY; replace hv := hW3.row hv oNZ; replace hR := hR.went hW3; replace hb := hb.trans (hW3.below.mono (by omega)); clear hM hnx oNY oNZ hW3; have hM := hM3; have hnx := n1; have oNY := n2; have oNZ := n3; clear hM3 n1 n2 n3) | ((with_reducible refine st_ep NY _ z hy ?_ ?_ ?_); exact rfl; exact rfl; intro W hnew hoo; replace hM := hM.only hoo oNY; replace hR := hR.only hoo qNY; replace hx := hx.only hoo (by omega); replace hv := hv.only hoo (by omega); replace hb := hoo.bel _ _ (by omega) hb; replace hy := hnew; clear hnew hoo) | (go_at_call 19; (with_reducible refine (HRT.out _ hR.ref).mono ?_); rintro e W4 ⟨r2, rfl, hR2, hnw, hbc⟩; have q1 : ¬ r2.owns NX := (fun e => (hnw _ e).elim hrx (fun k => absurd hx.lt (by omega))); have q2 : ¬ r2.owns NY := (fun e => (hnw _ e).elim qNY (fun k => absurd hy.lt (by omega))); have q3 : ¬ r2.owns NZ := (fun e => (hnw _ e).elim qNZ (fun k => absurd hv.lt (by omega))); have hBW := hM.base; have hR3 := hR.next hM hR2 hnw; replace hM := hM.bl hbc; replace hx := hx.bl hbc; replace hy := hy.bl hbc; replace hv := hv.bl hbc; replace hb := hb.trans (hbc.mono (by omega)); clear hR hR2 hnw hbc hrx qNY qNZ; have hR := hR3; clear hR3) | ((with_reducible refine st_er NZ _ z hv ?_ ?_ ?_); exact rfl; exact rfl; intro W hnew hoo; replace hM := hM.only hoo oNZ; replace hR := hR.only hoo q3; replace hx := hx.only hoo (by omega); replace hy := hy.only hoo (by omega); replace hb := hoo.bel _ _ (by omega) hb; replace hv := hnew; clear hnew hoo) | ((with_reducible refine st_R NX _ r2 8192 2 hx ?_ ?_ ?_ ?_); exact rfl; exact rfl; exact rfl; intro W hnew hoo; replace hM := hM.only hoo hnx; replace hR := hR.only hoo q1; replace hy := hy.only hoo (by omega); replace hv := hv.only hoo (by omega); replace hb := hoo.bel _ _ (by omega) hb; replace hx := hnew; clear hnew hoo) | ((with_reducible refine g_nee z z ?_ ?_ ?_ ?_); exact rfl; exact rfl; exact rfl; (try rw [heqz])))
        go_roundw
        case rel => exact ⟨k + 1, z, f2, _, r2, by omega, by go_num, okz, by (rw [← Nat.add_assoc]; exact hM), hR, hx, hy, hv, hnx, oNY, oNZ, q1, q2, q3, hb⟩
        case measure => simp [intOf]; omega
      · have lt1 : decide ((k : Int) < 1 + (T : Int)) = false := by simp; omega
        have HRd : Hid (∀ W O1, RamB W (B + 1 + 1) b 2 f (40 + k) O1 → Calls Tryd.prog 20 #[.pointer (some ⟨b, 0, none⟩), .int .u32 0, .int .i64 8192] W fun e w' => e = .returned (.tuple #[.slice (some ⟨W.heap.size, 0, none⟩) 8192 8192, .nilIface]) ∧ HoldsAt w' W.heap.size 8192 5 (fun j => .int .u8 (f (0 + j) : Nat)) ∧ ∃ O', RamB w' (B + 1 + 1) b 2 f (40 + k) O' ∧ Went (B + 1 + 1) O1 O' W w' ∧ ¬ O' W.heap.size) := hide (fun W O1 hM => read_b hM 0 (by decide) 8192 (by decide) (by decide))
        have hsm := hM.small
        obtain ⟨tx, htx⟩ : ∃ t, textF f 8192 = t := ⟨_, rfl⟩
        go_wp2_with (first | (go_at_call 20; (with_reducible refine (HRd.out _ _ hM).mono ?_); rintro e W5 ⟨rfl, hH, O5, hM5, hW5, hno⟩; replace hx := hW5.row hx hnx; replace hR := hR.went hW5; replace hA := hA.went (by omega) hW5; replace hb := hb.trans (hW5.below.mono (by omega)); have cv1 := conv_text hsm hH; have cv2 := conv_ref hR.ref; rw [htx] at cv1 cv2; have fB : W5.cell? ⟨NX, 0, none⟩ = some (.slice (some ⟨r.gB, 0, none⟩) 8192 r.cB) := (hx.cell 0).trans rfl; clear hM hM5 hW5 hno hH) | (go_at_call 16; (with_reducible refine (HSu.out _ hA).mono ?_); rintro e W9 ⟨rfl, hbs⟩; replace hb := hb.trans (hbs.mono (by have := hb.size; omega))))
        go_ret
        exact ⟨rfl, hb⟩
end Go.Proofs.YtalcgipcephnnaaDoor
namespace Go.Proofs.YtalcgipcephnnaaDoor
open Go.ChangeShapes Go.WideShapes Go.ChangeAt Go.RowKit
set_option linter.unusedVariables false

set_option maxRecDepth 100000 in
theorem dmaTicks_lifted (os : Os) (started : os.Started) (H : Type) (enc : TypeId × Value → H) :
    ReturnsInHanded {} Tryd.checked os 4 .any (fun w args => (Rows.dmaTicksSpec.pre enc Tryd.prog Tryd.f4 [] false w args ∧ laidMetH Tryd.prog laid1 w) ∧ sizedMet enc Tryd.prog Tryd.f4 (OpenSpec.ofChange Rows.dmaTicksSpec) false w args)
      (Rows.dmaTicksSpec.post enc Tryd.prog Tryd.f4 false true false false) := by
  refine returnsInHanded_of_change_and (C := Tryd.checked) (X := fun w _ => laidMetH Tryd.prog laid1 w) (fun _ _ _ hh h => h.of_heap hh) own started (by kernel_rfl) Tryd.func4
    (ChangeSpec.witness_shaped (enc := enc) (C := Tryd.checked) (os := os) (X := fun w _ => laidMetH Tryd.prog laid1 w) false (World.doorLaid Tryd.prog 600 os) #[.agg #[.int .u32 0, .int .u32 0, .int .u32 0, .int .u32 0, .int .u32 0, .bool false, .int .u32 0, .int .u32 0, .int .u32 0, .int .u32 0, .bool false], .slice none 0 0, .int .i64 0] 8 rfl (World.shaped_of_RefB (by kernel_rfl) (by kernel_rfl)) (by kernel_rfl) (by kernel_rfl) (by kernel_rfl) (door1 os _)) ?_
  intro W base args ds gs before hval0 hW _ _ hL _
  have hval : ∀ (j : Nat) t v, Tryd.f4.params[j]? = some t → args[j]? = some v → Value.okWide Tryd.prog W .any base t v := hval0
  have hW' := hW
  obtain ⟨p, q, hA0, hV, rfl, hfz, hnd⟩ := hW
  have hA : DataW.TrodAll enc Tryd.prog W 0 (fun _ => true) true Tryd.f4.params.toList args.toList ds p := hA0
  rw [Tryd.params4] at hA hval
  obtain ⟨v0, vs0, d0, ds0, p0, q0, hargs, rfl, rfl, h0, r0⟩ := trodAll_cons hA
  obtain ⟨v1, vs1, d1, ds1, p1, q1, rfl, rfl, rfl, h1, r1⟩ := trodAll_cons r0
  obtain ⟨v2, vs2, d2, ds2, p2, q2, rfl, rfl, rfl, h2, r2⟩ := trodAll_cons r1
  obtain ⟨rfl, rfl, rfl⟩ := trodAll_nil r2
  obtain rfl : args = #[v0, v1, v2] := by cases args; simp_all
  obtain ⟨rfl, rfl⟩ := trodVars_none hV
  have lt0 : ∀ x ∈ p0, x.block < W.heap.size := by obtain ⟨m, hm⟩ := h0; exact DataW.trod_lt m _ _ _ hm
  obtain ⟨i0, hi0, rfl⟩ := open_engine (hval 0 24 v0 rfl rfl) h0
  obtain ⟨s1, len1, cap1, rfl⟩ := okWide_slice Tryd.underlying41 (hval 1 41 v1 rfl rfl)
  have lt1 : ∀ x ∈ p1, x.block < W.heap.size := by obtain ⟨m, hm⟩ := h1; exact DataW.trod_lt m _ _ _ hm
  obtain ⟨g1, lc1, cm1, hp1⟩ := open_pairs h1
  obtain ⟨a2, rfl, rfl, rfl, w2⟩ := open_int Tryd.underlying3 (hval 2 3 v2 rfl rfl) h2
  clear hA0 hval0
  refine (ticks_walk i0 hi0 a2 s1 len1 cap1 g1 W hp1 lc1 cm1 (areas_of_laid1 hL)).mono fun e W' ⟨he, bel⟩ => ?_
  subst he
  exact ⟨_, rfl, _, _, _, [], _, [], hW', trodAll_mk1 (shut_bool Tryd.underlying4 _), (trodAll_cons_mk (Below.trod laidOut (by kernel_rfl) (of_decide_eq_true (by kernel_rfl)) h0 bel lt0) (trodAll_cons_mk (Below.trod laidOut (by kernel_rfl) (of_decide_eq_true (by kernel_rfl)) h1 bel lt1) (trodAll_cons_mk (shut_int Tryd.underlying3 w2) trodAll_mk0))), rfl, bel.frame _, fun h => by cases h⟩

theorem dmaTicks_over : Rows.DmaTicksSaid :=
  OpenClaim.holds_of_wide 4 Tryd.f4 rfl rfl rfl rfl rfl rfl rfl ⟨rfl, rfl, rfl, rfl, rfl⟩ rfl rfl rfl rfl rfl (by kernel_rfl) Tryd.func4 (by kernel_rfl)
    (of_decide_eq_true (by kernel_rfl)) (by unfold Func.isWrapper; first | (rw [if_pos (by decide +kernel)]; kernel_rfl) | (rw [if_neg (by decide +kernel)]; exact ⟨rfl, rfl⟩))
    (fun os started H enc _ => dmaTicks_lifted os started H enc)

theorem dmaTicks_proved : Rows.DmaTicksCardSaid :=
  Claim7.holds_tied_plain_at .later [] [.data] true (true, "d1af6ef15ad84275b8b7023fca5e799187f0d4a3b4c8ce5f5e664cbbf7753002") true
    dmaTicks_over (fun _ h => by cases h) (by kernel_rfl) (fun _ h => by cases h) dmaTicks_row_tie rfl ⟨rfl, rfl⟩ (by kernel_rfl) rfl
    (fun f fn hf hfn => by
      obtain rfl : f = 4 := Option.some.inj ((show Tryd.prog.funcNamed Rows.dmaTicksRow.func = some 4 by kernel_rfl).symm.trans hf) |>.symm
      obtain rfl : fn = Tryd.f4 := (Option.some.inj (Tryd.func4.symm.trans hfn)).symm
      exact ⟨by kernel_rfl, fun j t ht => by
        rw [Tryd.params4] at ht
        have hm : t ∈ [24, 41, 3] := by simpa using Array.mem_of_getElem? ht
        have hall : ([24, 41, 3].all fun u => !Tryd.prog.wantsStandIn u) = true := by kernel_rfl
        exact (show Tryd.prog.wantsStandIn t = false by simpa using List.all_eq_true.1 hall t hm)⟩)
    (by kernel_rfl)
#print axioms dmaTicks_proved
end Go.Proofs.YtalcgipcephnnaaDoor
