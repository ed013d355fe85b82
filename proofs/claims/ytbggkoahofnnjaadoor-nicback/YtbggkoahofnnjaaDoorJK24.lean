/-
  What stays so of a net device, whatever stands in memory. Plain.
-/
import Derived.Test.YtbggkoahofnnjaaDoorJK23
import Derived.Test.YtbggkoahofnnjaaDoorJK12
import Derived.Deep.RegionHeld3
import Derived.Test.YtbggkoahofnnjaaDoorJK1
namespace Go.Proofs.YtbggkoahofnnjaaDoor
open Go.RowKit
set_option linter.unusedVariables false
set_option linter.unusedSimpArgs false

/-- A net device. -/
structure Nc where
  p : V
  be : Bool
  lo : Nat
structure Nc.Ok (s : Nc) : Prop where
  p : s.p.Ok
  lo : s.lo < 4294967296
def zeroNc : Nc := ⟨zeroV, false, 0⟩
def Nc.c (s : Nc) : Array Value := s.p.cells ++ #[.bool s.be, .int .u32 (s.lo : Nat)]
def Nc.pw (s : Nc) (p : V) : Nc := ⟨p, s.be, s.lo⟩
def Nc.bw (s : Nc) (b : Bool) : Nc := ⟨s.p, b, s.lo⟩
def Nc.lw (s : Nc) (n : Nat) : Nc := ⟨s.p, s.be, n⟩
def Nc.fail (s : Nc) : Nc := s.pw (failV s.p)
def Nc.lost (s : Nc) : Nc := s.lw ((s.lo + 1) % 4294967296)
/-- A chain: the ring behind it, its head; its parts stand beside. -/
structure Cn where
  r : Rg
  hd : Int
def zeroCn : Cn := ⟨zeroRg, 0⟩
def Cn.c (c : Cn) (v : Value) : Array Value := c.r.cells ++ #[.int .i64 c.hd, v]
/-- The next chain: an error, and what there is. -/
def ncNext (p : Nat) (f : Nat → Nat) (r : Rg) : Nat × Option (Cn × List Sg) :=
  if (nextV p f r).2.2.2 = 0 then
    (if (nextV p f r).2.2.1 = true then
      (match walkV p f (nextV p f r).1 ((nextV p f r).2.1 : Nat) with
       | none => (22, none)
       | some l => (0, some (⟨(nextV p f r).1, ((nextV p f r).2.1 : Nat)⟩, l)))
     else (0, none))
  else ((nextV p f r).2.2.2, none)
def isFr (n : Int) : Bool := decide (1 ≤ n) && decide (n ≤ 1514)
/-- The frame in a chain's parts. -/
def ncFrame (f : Nat → Nat) (l : List Sg) : Option (List Nat) :=
  if isFr (roomV false 0 l - 12) = true then some ((gathF f (partsV false 9223372036854775807 l)).drop 12) else none
/-- A chain taken from a queue, written to, and given back. -/
def ncAns (p : Nat) (f : Nat → Nat) (s : V) (q : Nat) (c : Cn) (l : List Sg) (b : List Nat) : (Nat → Nat) × V × Bool :=
  if scatE p l b.length = 0 then
    (match (giveV p (scatF f (partsV true b.length l) b) c.r c.hd b.length).2 with
     | none => ((giveV p (scatF f (partsV true b.length l) b) c.r c.hd b.length).1, failV (s.qw q ((s.q q).rw' c.r)), false)
     | some r => ((giveV p (scatF f (partsV true b.length l) b) c.r c.hd b.length).1, usedV ((s.qw q ((s.q q).rw' c.r)).qw q (((s.qw q ((s.q q).rw' c.r)).q q).rw' r)), true))
  else (f, failV (s.qw q ((s.q q).rw' c.r)), false)
def ncWorks (s : V) (q : Nat) : Bool := liveV s && (s.q q).rd
/-- Frames that go out, so many at most. -/
def ncSend (p : Nat) : Nat → (Nat → Nat) → Nc → List (List Nat) → (Nat → Nat) × Nc × List (List Nat)
  | 0, f, s, acc => (f, s, acc)
  | k + 1, f, s, acc =>
    match ncNext p f s.p.q1.r with
    | (e, none) => if e = 0 then (f, s.bw false, acc) else (f, s.fail, acc)
    | (_, some (c, l)) =>
      match ncFrame f l with
      | none => (f, s.fail, acc)
      | some b => if (ncAns p f s.p 1 c l []).2.2 = true then ncSend p k (ncAns p f s.p 1 c l []).1 (s.pw (ncAns p f s.p 1 c l []).2.1) (acc ++ [b]) else ((ncAns p f s.p 1 c l []).1, s.pw (ncAns p f s.p 1 c l []).2.1, acc ++ [b])
def sendV (p : Nat) (f : Nat → Nat) (s : Nc) : (Nat → Nat) × Nc × List (List Nat) :=
  if (s.be && ncWorks s.p 1) = true then ncSend p 4 f s [] else (f, s, [])
def headL : List Nat := [0, 0, 0, 0, 0, 0, 0, 0, 0, 0, 1, 0]
def takeV (p : Nat) (f : Nat → Nat) (s : Nc) (b : List Nat) : (Nat → Nat) × Nc × Bool × Nat :=
  if isFr (b.length : Int) = true then
    (if ncWorks s.p 0 = true then
      (match ncNext p f s.p.q0.r with
       | (e, none) => if e = 0 then (f, s.lost, false, 0) else (f, s.fail.lost, false, 0)
       | (_, some (c, l)) =>
         if roomV true 0 l < ((12 + b.length : Nat) : Int) then ((ncAns p f s.p 0 c l []).1, (s.pw (ncAns p f s.p 0 c l []).2.1).lost, false, 0)
         else ((ncAns p f s.p 0 c l (headL ++ b)).1, s.pw (ncAns p f s.p 0 c l (headL ++ b)).2.1, true, 0))
     else (f, s.lost, false, 0))
  else (f, zeroNc, false, 2)
end Go.Proofs.YtbggkoahofnnjaaDoor
namespace Go.Proofs.YtbggkoahofnnjaaDoor
open Go.RowKit
set_option linter.unusedVariables false
set_option linter.unusedSimpArgs false

/-- What lies in memory behind k words. -/
def laidW (g : Nat → Nat → Nat) : Nat → (Nat → Nat)
  | 0 => fun _ => 0
  | k + 1 => wroteF (laidW g k) (atOf (g k 0)) (numB (g k 1) 4)
theorem results_tmp_cellB {P : Program} {fn : Func} {p u : Tmp} {ty : TypeId} (h : fn.results = #[.tmp u, .cell p ty]) (tmps : Array Value) (w : World) (g : Nat) (t : TypeId) (cs : Array Value) (d : TypeDesc)
    (hp : tmps.getD p undef = .pointer (some ⟨g, 0, none⟩)) (hg : RowAt w g cs t) (hu : P.underlying ty = some d) (hd : d.isRow = true) (hi : (P.info? ty).map (·.size) = some cs.size) :
    (results fn tmps).run P w = .ok (.tuple #[tmps.getD u undef, .agg cs]) w := by
  have e : tmps[p]?.getD undef = .pointer (some ⟨g, 0, none⟩) := by simpa using hp
  have l := run_loadVar_row w g t ty cs (0, 0) d hg hu (by cases d <;> first | rfl | cases hd) hi
  simp [results, h, e, asAddr, l]
set_option maxHeartbeats 2000000 in
theorem rboth_any (la : Option Addr) (len cap : Nat) (g : Nat → Nat → Nat) (w : World) (hl : PairsAt w w.heap.size la len g) (hlc : len ≤ cap) (hcm : cap ≤ 9223372036854775807) :
    Calls Tryd.prog 5 #[.slice la len cap] w fun e w' => ∃ b f O r, f = laidW g (min len 80) ∧ e = .returned (.tuple #[.pointer (some ⟨b, 0, none⟩), .agg (r.v 8192 2)]) ∧ RamB w' (w.heap.size + 1) b 2 f 80 O ∧ RefB w' (w.heap.size + 1) 8192 2 f r O ∧ Below w.heap.size w w' := by
  obtain ⟨B, hB⟩ : ∃ B, w.heap.size = B := ⟨_, rfl⟩
  rw [hB] at hl ⊢
  have HL := hide hl
  have HN : Hid (∀ W, Calls Tryd.prog 10 #[.int .i64 2] W fun e w' => ∃ b O, e = .returned (.tuple #[.pointer (some ⟨b, 0, none⟩), .nilIface]) ∧ RamB w' W.heap.size b 2 (fun _ => 0) 0 O ∧ Below W.heap.size W w') := hide (fun W => new_b 2 (by decide) (by decide) W)
  have HRN : Hid (∀ W, Calls Tryd.prog 11 #[.int .i64 2] W fun e w' => (∃ r : RP, e = .returned (.tuple #[.agg (r.v 8192 2), .int .i64 0]) ∧ RefAt w' 8192 2 (fun _ => 0) r ∧ ∀ x, r.owns x → W.heap.size ≤ x) ∧ Below W.heap.size W w') := hide (fun W => rnew_ok 8192 2 (by decide) (by decide) rfl W)
  clear hl
  go_enter Tryd.func5, Tryd.ntmps5
  go_wp2_with (first | ((with_reducible refine al_Rz B ?_ ?_); exact hB; intro W hq hb hz) | (go_at_call 10; (with_reducible refine (HN.out _).mono ?_); rintro e W1 ⟨b, O, rfl, hM, hbc⟩; rw [hz.out] at hM; replace hq := hq.bl hbc; replace hb := hb.trans (hbc.mono (by have := hz.out; omega)); clear hbc) | (go_at_call 11; (with_reducible refine (HRN.out _).mono ?_); rintro e W2 ⟨⟨r, rfl, hR0, hR1⟩, hbc⟩; have hlo : B + 1 ≤ W1.heap.size := hM.base; have hR : RefB W2 (B + 1) 8192 2 (fun _ => 0) r O := ⟨hR0, fun x hx => Nat.le_trans hlo (hR1 x hx), fun x hx e => absurd (hM.lt x e) (by have := hR1 x hx; omega)⟩; replace hM := hM.bl hbc; replace hq := hq.bl hbc; replace hb := hb.trans (hbc.mono (by omega)); obtain ⟨NX, hNX0⟩ : ∃ n, W2.heap.size = n := ⟨_, rfl⟩; have hNX := hide hNX0; have hNB : B + 1 ≤ NX := hNX0 ▸ hM.base; have hnx : ¬ O NX := (fun e => absurd (hM.lt _ e) (by omega)); have hrx : ¬ r.owns NX := (fun e => absurd (hR.ref.lt e) (by omega)); clear hNX0 hbc hR0 hR1) | ((with_reducible refine al_Rz NX ?_ ?_); exact hNX.out; intro W hx hb' hz2; have hbc : Below W2.heap.size W2 W := (by rw [hNX.out]; exact hb'); replace hb := hb.trans (hb'.mono (by omega)); replace hM := hM.bl hbc; replace hR := hR.bl hbc; replace hq := hq.bl hbc; clear hb' hbc) | ((with_reducible refine st_R NX _ r 8192 2 hx ?_ ?_ ?_ ?_); exact rfl; exact rfl; exact rfl; intro W hnew hoo; replace hM := hM.only hoo hnx; replace hR := hR.only hoo hrx; replace hq := hq.only hoo (by omega); replace hb := hoo.bel _ _ (by omega) hb; replace hx := hnew; have hsz : NX < W.heap.size := hx.lt; clear hnew hoo))
  clear hz HN HRN hNX
  go_loopw [8] (fun iv wr => ∃ (k : Nat) (f : Nat → Nat) (O : Nat → Prop) (r : RP), k ≤ 80 ∧ k ≤ len ∧ iv = .int .i64 (k : Nat) ∧ f = laidW g k ∧ RamB wr (B + 1) b 2 f k O ∧ RefB wr (B + 1) 8192 2 f r O ∧ RowAt wr NX (r.v 8192 2) 29 ∧ RowAt wr B zR 29 ∧ ¬ O NX ∧ ¬ r.owns NX ∧ Below B w wr) (fun iv _ => 80 - (intOf iv).toNat)
  case atStart => exact ⟨0, _, O, r, Nat.zero_le _, Nat.zero_le _, rfl, rfl, hM, hR, hx, hq, hnx, hrx, hb⟩
  case round =>
    clear hM hR hx hq hnx hrx hb
    obtain ⟨k, f, O, r, hk, hkl, rfl, hfe, hM, hR, hx, hq, hnx, hrx, hb⟩ := hrel
    have HFE := hide hfe
    clear hfe
    by_cases hlt : k < len ∧ k < 80
    · obtain ⟨hlt1, hlt2⟩ := hlt
      obtain ⟨lb, lo, rfl, hlb, hc0, hc1⟩ := HL.out.lies k hlt1
      obtain ⟨hs0, hs1⟩ := HL.out.small k hlt1
      have ha := atOf_in (g k 0)
      obtain ⟨av, hav⟩ : ∃ a, atOf (g k 0) = a := ⟨_, rfl⟩
      obtain ⟨vv, hvv⟩ : ∃ a, g k 1 = a := ⟨_, rfl⟩
      obtain ⟨xv, hxv⟩ : ∃ a, g k 0 = a := ⟨_, rfl⟩
      rw [hav] at ha
      rw [hvv] at hc1 hs1
      rw [hxv] at hc0 hs0 hav
      have HLW : Hid (wroteF f av (numB vv 4) = laidW g (k + 1)) := hide (by show _ = wroteF (laidW g k) (atOf (g k 0)) (numB (g k 1) 4); rw [← HFE.out, hxv, hav, hvv])
      have eav : (xv : Int) % 8192 / 4 * 4 = (av : Int) := by rw [← hav]; unfold atOf; omega
      have HS : Hid (∀ W O1, RamB W (B + 1) b 2 f k O1 → Calls Tryd.prog 8 #[.pointer (some ⟨b, 0, none⟩), .int .u32 (av : Nat), .int .i64 4, .int .u32 (vv : Nat)] W fun e w' => e = .returned .nilIface ∧ ∃ O', RamB w' (B + 1) b 2 (wroteF f av (numB vv 4)) (k + 1) O' ∧ Went (B + 1) O1 O' W w') := hide (fun W O1 hM => store_b hM av 4 (by omega) (by decide) ha.1 (by omega) vv hs1 (by omega))
      have HRS : Hid (∀ W, RefAt W 8192 2 f r → Calls Tryd.prog 12 #[.agg (r.v 8192 2), .int .u32 (av : Nat), .int .i64 4, .int .u32 (vv : Nat)] W fun e w' => (∃ r' : RP, e = .returned (.tuple #[.agg (r'.v 8192 2), .int .i64 0]) ∧ RefAt w' 8192 2 (wroteF f av (numB vv 4)) r' ∧ ∀ x, r'.owns x → W.heap.size ≤ x) ∧ Below W.heap.size W w') := hide (fun W hR => rstore_ok hR av 4 (by omega) (by decide) ha.1 (by omega) vv hs1)
      have lt1 : (k : Int) < (len : Int) := by omega
      have lt2 : (k : Int) < 80 := by omega
      have hcw0 : wr.cell? ⟨lb, lo + k * 2, none⟩ = some (.int .u32 (xv : Nat)) := (hb.cell (p := ⟨lb, lo + k * 2, none⟩) hlb).trans hc0
      have hcw1 : wr.cell? ⟨lb, lo + k * 2 + 1, none⟩ = some (.int .u32 (vv : Nat)) := (hb.cell (p := ⟨lb, lo + k * 2 + 1, none⟩) hlb).trans hc1
      have e5 : Hid ((xv : Int).tmod 8192 = (xv : Int) % 8192) := hide (Int.tmod_eq_emod_of_nonneg (by omega))
      have e6 : Hid (IntKind.u32.wrap (((xv : Int) % 8192).tdiv 4) = (xv : Int) % 8192 / 4) := hide (by rw [IntKind.wrap_u32, Int.tdiv_eq_ediv_of_nonneg (by omega)]; omega)
      have e7 : Hid (IntKind.u32.wrap (av : Int) = (av : Int)) := hide (by rw [IntKind.wrap_u32]; omega)
      clear hav ha
      go_wp2_with (fail)
      refine wp_region_held_drew (S := (fun V => Below B w V)) (by kernel_rfl) ?_ (fun hHeld => ?_)
      · exact hb.drew
      replace hM := hM.dr
      replace hR := hR.dr
      replace hx := hx.dr
      replace hq := hq.dr
      generalize World.drew _ = V at hHeld hM hR hx hq ⊢
      clear hb
      refine wpAnyH_take (i := 0) (oi := ?oi1) (v := .pointer (some ⟨b, 0, none⟩)) ?hi1 (by kernel_rfl) (by kernel_rfl) (by kernel_rfl) ?hQ1 ?hy1 (by assumption) ?rest1
      case hi1 => (simp only [List.getElem?_toArray, List.getElem?_cons_zero]; rfl)
      case hQ1 => exact fun _ _ _ h => h
      case hy1 => exact Or.inl ⟨by rfl, by (intro w hSw; (try dsimp only at hSw); go_simp )⟩
      simp only [Act.put, List.setIfInBounds_toArray, List.set_cons_zero, List.set_cons_succ]
      refine wpAnyH_take (i := 1) (oi := ?oi2) (v := .slice (some ⟨lb, lo, none⟩) len cap) ?hi2 (by kernel_rfl) (by kernel_rfl) (by kernel_rfl) ?hQ2 ?hy2 (by assumption) ?rest2
      case hi2 => (simp only [List.getElem?_toArray, List.getElem?_cons_zero, List.getElem?_cons_succ]; rfl)
      case hQ2 => exact fun _ _ _ h => h
      case hy2 => exact Or.inl ⟨by rfl, by (intro w hSw; (try dsimp only at hSw); go_simp )⟩
      simp only [Act.put, List.setIfInBounds_toArray, List.set_cons_zero, List.set_cons_succ]
      refine wpAnyH_take (i := 2) (oi := ?oi3) (v := .int .i64 (k : Nat)) ?hi3 (by kernel_rfl) (by kernel_rfl) (by kernel_rfl) ?hQ3 ?hy3 (by assumption) ?rest3
      case hi3 => (simp only [List.getElem?_toArray, List.getElem?_cons_zero, List.getElem?_cons_succ]; rfl)
      case hQ3 => exact fun _ _ _ h => h
      case hy3 => exact Or.inl ⟨by rfl, by (intro w hSw; (try dsimp only at hSw); go_simp )⟩
      simp only [Act.put, List.setIfInBounds_toArray, List.set_cons_zero, List.set_cons_succ]
      refine wpAnyH_take (i := 3) (oi := ?oi4) (v := .pointer (some ⟨lb, lo + k * 2, none⟩)) ?hi4 (by kernel_rfl) (by kernel_rfl) (by kernel_rfl) ?hQ4 ?hy4 (by assumption) ?rest4
      case hi4 => (simp only [List.getElem?_toArray, List.getElem?_cons_zero, List.getElem?_cons_succ]; rfl)
      case hQ4 => exact fun _ _ _ h => h
      case hy4 => exact Or.inl ⟨by rfl, by (intro w hSw; (try dsimp only at hSw); go_simp )⟩
      simp only [Act.put, List.setIfInBounds_toArray, List.set_cons_zero, List.set_cons_succ]
      refine wpAnyH_take (i := 4) (oi := ?oi5) (v := .pointer (some ⟨lb, lo + k * 2, none⟩)) ?hi5 (by kernel_rfl) (by kernel_rfl) (by kernel_rfl) ?hQ5 ?hy5 (by assumption) ?rest5
      case hi5 => (simp only [List.getElem?_toArray, List.getElem?_cons_zero, List.getElem?_cons_succ]; rfl)
      case hQ5 => exact fun _ _ _ h => h
      case hy5 => exact Or.inl ⟨by rfl, by (intro w hSw; (try dsimp only at hSw); go_simp )⟩
      simp only [Act.put, List.setIfInBounds_toArray, List.set_cons_zero, List.set_cons_succ]
      refine wpAnyH_take (i := 5) (oi := ?oi6) (v := .int .u32 (xv : Nat)) ?hi6 (by kernel_rfl) (by kernel_rfl) (by kernel_rfl) ?hQ6 ?hy6 (by assumption) ?rest6
      case hi6 => (simp only [List.getElem?_toArray, List.getElem?_cons_zero, List.getElem?_cons_succ]; rfl)
      case hQ6 => exact fun _ _ _ h => h
      case hy6 => exact y_cell lb (lo + k * 2) _ (fun V hV => (hV.cell (p := ⟨lb, lo + k * 2, none⟩) hlb).trans hc0) _ Tryd.underlying24 rfl rfl
      simp only [Act.put, List.setIfInBounds_toArray, List.set_cons_zero, List.set_cons_succ]
      refine wpAnyH_take (i := 6) (oi := ?oi7) (v := .int .u32 ((xv : Int) % 8192)) ?hi7 (by kernel_rfl) (by kernel_rfl) (by kernel_rfl) ?hQ7 ?hy7 (by assumption) ?rest7
      case hi7 => (simp only [List.getElem?_toArray, List.getElem?_cons_zero, List.getElem?_cons_succ]; rfl)
      case hQ7 => exact fun _ _ _ h => h
      case hy7 => exact Or.inl ⟨by rfl, by (intro w hSw; (try dsimp only at hSw); go_simp ; exact e5.out)⟩
      simp only [Act.put, List.setIfInBounds_toArray, List.set_cons_zero, List.set_cons_succ]
      refine wpAnyH_take (i := 7) (oi := ?oi8) (v := .int .u32 ((xv : Int) % 8192 / 4)) ?hi8 (by kernel_rfl) (by kernel_rfl) (by kernel_rfl) ?hQ8 ?hy8 (by assumption) ?rest8
      case hi8 => (simp only [List.getElem?_toArray, List.getElem?_cons_zero, List.getElem?_cons_succ]; rfl)
      case hQ8 => exact fun _ _ _ h => h
      case hy8 => exact Or.inl ⟨by rfl, by (intro w hSw; (try dsimp only at hSw); go_simp ; exact e6.out)⟩
      simp only [Act.put, List.setIfInBounds_toArray, List.set_cons_zero, List.set_cons_succ]
      refine wpAnyH_take (i := 8) (oi := ?oi9) (v := .int .u32 (av : Nat)) ?hi9 (by kernel_rfl) (by kernel_rfl) (by kernel_rfl) ?hQ9 ?hy9 (by assumption) ?rest9
      case hi9 => (simp only [List.getElem?_toArray, List.getElem?_cons_zero, List.getElem?_cons_succ]; rfl)
      case hQ9 => exact fun _ _ _ h => h
      case hy9 => exact Or.inl ⟨by rfl, by (intro w hSw; (try dsimp only at hSw); go_simp ; exact e7.out)⟩
      simp only [Act.put, List.setIfInBounds_toArray, List.set_cons_zero, List.set_cons_succ]
      refine wpAnyH_take (i := 9) (oi := ?oi10) (v := .slice (some ⟨lb, lo, none⟩) len cap) ?hi10 (by kernel_rfl) (by kernel_rfl) (by kernel_rfl) ?hQ10 ?hy10 (by assumption) ?rest10
      case hi10 => (simp only [List.getElem?_toArray, List.getElem?_cons_zero, List.getElem?_cons_succ]; rfl)
      case hQ10 => exact fun _ _ _ h => h
      case hy10 => exact Or.inl ⟨by rfl, by (intro w hSw; (try dsimp only at hSw); go_simp )⟩
      simp only [Act.put, List.setIfInBounds_toArray, List.set_cons_zero, List.set_cons_succ]
      refine wpAnyH_take (i := 10) (oi := ?oi11) (v := .int .i64 (k : Nat)) ?hi11 (by kernel_rfl) (by kernel_rfl) (by kernel_rfl) ?hQ11 ?hy11 (by assumption) ?rest11
      case hi11 => (simp only [List.getElem?_toArray, List.getElem?_cons_zero, List.getElem?_cons_succ]; rfl)
      case hQ11 => exact fun _ _ _ h => h
      case hy11 => exact Or.inl ⟨by rfl, by (intro w hSw; (try dsimp only at hSw); go_simp )⟩
      simp only [Act.put, List.setIfInBounds_toArray, List.set_cons_zero, List.set_cons_succ]
      refine wpAnyH_take (i := 11) (oi := ?oi12) (v := .pointer (some ⟨lb, lo + k * 2, none⟩)) ?hi12 (by kernel_rfl) (by kernel_rfl) (by kernel_rfl) ?hQ12 ?hy12 (by assumption) ?rest12
      case hi12 => (simp only [List.getElem?_toArray, List.getElem?_cons_zero, List.getElem?_cons_succ]; rfl)
      case hQ12 => exact fun _ _ _ h => h
      case hy12 => exact Or.inl ⟨by rfl, by (intro w hSw; (try dsimp only at hSw); go_simp )⟩
      simp only [Act.put, List.setIfInBounds_toArray, List.set_cons_zero, List.set_cons_succ]
      refine wpAnyH_take (i := 12) (oi := ?oi13) (v := .pointer (some ⟨lb, lo + k * 2 + 1, none⟩)) ?hi13 (by kernel_rfl) (by kernel_rfl) (by kernel_rfl) ?hQ13 ?hy13 (by assumption) ?rest13
      case hi13 => (simp only [List.getElem?_toArray, List.getElem?_cons_zero, List.getElem?_cons_succ]; rfl)
      case hQ13 => exact fun _ _ _ h => h
      case hy13 => exact Or.inl ⟨by rfl, by (intro w hSw; (try dsimp only at hSw); go_simp )⟩
      simp only [Act.put, List.setIfInBounds_toArray, List.set_cons_zero, List.set_cons_succ]
      refine wpAnyH_take (i := 13) (oi := ?oi14) (v := .int .u32 (vv : Nat)) ?hi14 (by kernel_rfl) (by kernel_rfl) (by kernel_rfl) ?hQ14 ?hy14 (by assumption) ?rest14
      case hi14 => (simp only [List.getElem?_toArray, List.getElem?_cons_zero, List.getElem?_cons_succ]; rfl)
      case hQ14 => exact fun _ _ _ h => h
      case hy14 => exact y_cell lb (lo + k * 2 + 1) _ (fun V hV => (hV.cell (p := ⟨lb, lo + k * 2 + 1, none⟩) hlb).trans hc1) _ Tryd.underlying24 rfl rfl
      simp only [Act.put, List.setIfInBounds_toArray, List.set_cons_zero, List.set_cons_succ]
      refine wpAnyH_ready (rs := [14]) (by kernel_rfl) (by simp) ?_
      refine AllReadyH.cons (o := ?oi15) ?hi15 (fun K hK => ?_) AllReadyH.nil
      case hi15 => (simp only [List.getElem?_toArray, List.getElem?_cons_zero, List.getElem?_cons_succ]; rfl)
      go_simp
      (with_reducible refine (HS.out _ _ hM).mono ?_)
      rintro e V ⟨rfl, O2, hM2, hW2⟩
      have hH2 := hide (hHeld.trans (hW2.below.mono (by omega)))
      have hnx2 := hW2.no hx.lt hnx
      replace hR := hR.went hW2
      replace hx := hW2.row hx hnx
      replace hq := hW2.row hq (fun e => absurd (hM.low _ e) (by omega))
      replace hM := hM2
      clear hnx
      have hnx := hnx2
      clear hHeld hW2 hM2 hnx2
      go_simp
      refine hK.out _ _ ?_ (fun hHeld => ?_)
      · exact hH2.out
      clear hK K
      clear hH2
      refine wpAnyH_done (by kernel_rfl) ?_ _
      have hb := hHeld
      clear hHeld
      go_wp2_with (fail)
      refine wp_region_held_drew (S := (fun V => Below B w V)) (by kernel_rfl) ?_ (fun hHeld => ?_)
      · exact hb.drew
      replace hM := hM.dr
      replace hR := hR.dr
      replace hx := hx.dr
      replace hq := hq.dr
      generalize World.drew _ = V at hHeld hM hR hx hq ⊢
      clear hb
      refine wpAnyH_take (i := 1) (oi := ?oi16) (v := .slice (some ⟨lb, lo, none⟩) len cap) ?hi16 (by kernel_rfl) (by kernel_rfl) (by kernel_rfl) ?hQ16 ?hy16 (by assumption) ?rest16
      case hi16 => (simp only [List.getElem?_toArray, List.getElem?_cons_zero, List.getElem?_cons_succ]; rfl)
      case hQ16 => exact fun _ _ _ h => h
      case hy16 => exact Or.inl ⟨by rfl, by (intro w hSw; (try dsimp only at hSw); go_simp )⟩
      simp only [Act.put, List.setIfInBounds_toArray, List.set_cons_zero, List.set_cons_succ]
      refine wpAnyH_take (i := 2) (oi := ?oi17) (v := .int .i64 (k : Nat)) ?hi17 (by kernel_rfl) (by kernel_rfl) (by kernel_rfl) ?hQ17 ?hy17 (by assumption) ?rest17
      case hi17 => (simp only [List.getElem?_toArray, List.getElem?_cons_zero, List.getElem?_cons_succ]; rfl)
      case hQ17 => exact fun _ _ _ h => h
      case hy17 => exact Or.inl ⟨by rfl, by (intro w hSw; (try dsimp only at hSw); go_simp )⟩
      simp only [Act.put, List.setIfInBounds_toArray, List.set_cons_zero, List.set_cons_succ]
      refine wpAnyH_take (i := 3) (oi := ?oi18) (v := .pointer (some ⟨lb, lo + k * 2, none⟩)) ?hi18 (by kernel_rfl) (by kernel_rfl) (by kernel_rfl) ?hQ18 ?hy18 (by assumption) ?rest18
      case hi18 => (simp only [List.getElem?_toArray, List.getElem?_cons_zero, List.getElem?_cons_succ]; rfl)
      case hQ18 => exact fun _ _ _ h => h
      case hy18 => exact Or.inl ⟨by rfl, by (intro w hSw; (try dsimp only at hSw); go_simp )⟩
      simp only [Act.put, List.setIfInBounds_toArray, List.set_cons_zero, List.set_cons_succ]
      refine wpAnyH_take (i := 4) (oi := ?oi19) (v := .pointer (some ⟨lb, lo + k * 2, none⟩)) ?hi19 (by kernel_rfl) (by kernel_rfl) (by kernel_rfl) ?hQ19 ?hy19 (by assumption) ?rest19
      case hi19 => (simp only [List.getElem?_toArray, List.getElem?_cons_zero, List.getElem?_cons_succ]; rfl)
      case hQ19 => exact fun _ _ _ h => h
      case hy19 => exact Or.inl ⟨by rfl, by (intro w hSw; (try dsimp only at hSw); go_simp )⟩
      simp only [Act.put, List.setIfInBounds_toArray, List.set_cons_zero, List.set_cons_succ]
      refine wpAnyH_take (i := 5) (oi := ?oi20) (v := .int .u32 (xv : Nat)) ?hi20 (by kernel_rfl) (by kernel_rfl) (by kernel_rfl) ?hQ20 ?hy20 (by assumption) ?rest20
      case hi20 => (simp only [List.getElem?_toArray, List.getElem?_cons_zero, List.getElem?_cons_succ]; rfl)
      case hQ20 => exact fun _ _ _ h => h
      case hy20 => exact y_cell lb (lo + k * 2) _ (fun V hV => (hV.cell (p := ⟨lb, lo + k * 2, none⟩) hlb).trans hc0) _ Tryd.underlying24 rfl rfl
      simp only [Act.put, List.setIfInBounds_toArray, List.set_cons_zero, List.set_cons_succ]
      refine wpAnyH_take (i := 6) (oi := ?oi21) (v := .int .u32 ((xv : Int) % 8192)) ?hi21 (by kernel_rfl) (by kernel_rfl) (by kernel_rfl) ?hQ21 ?hy21 (by assumption) ?rest21
      case hi21 => (simp only [List.getElem?_toArray, List.getElem?_cons_zero, List.getElem?_cons_succ]; rfl)
      case hQ21 => exact fun _ _ _ h => h
      case hy21 => exact Or.inl ⟨by rfl, by (intro w hSw; (try dsimp only at hSw); go_simp ; exact e5.out)⟩
      simp only [Act.put, List.setIfInBounds_toArray, List.set_cons_zero, List.set_cons_succ]
      refine wpAnyH_take (i := 7) (oi := ?oi22) (v := .int .u32 ((xv : Int) % 8192 / 4)) ?hi22 (by kernel_rfl) (by kernel_rfl) (by kernel_rfl) ?hQ22 ?hy22 (by assumption) ?rest22
      case hi22 => (simp only [List.getElem?_toArray, List.getElem?_cons_zero, List.getElem?_cons_succ]; rfl)
      case hQ22 => exact fun _ _ _ h => h
      case hy22 => exact Or.inl ⟨by rfl, by (intro w hSw; (try dsimp only at hSw); go_simp ; exact e6.out)⟩
      simp only [Act.put, List.setIfInBounds_toArray, List.set_cons_zero, List.set_cons_succ]
      refine wpAnyH_take (i := 8) (oi := ?oi23) (v := .int .u32 (av : Nat)) ?hi23 (by kernel_rfl) (by kernel_rfl) (by kernel_rfl) ?hQ23 ?hy23 (by assumption) ?rest23
      case hi23 => (simp only [List.getElem?_toArray, List.getElem?_cons_zero, List.getElem?_cons_succ]; rfl)
      case hQ23 => exact fun _ _ _ h => h
      case hy23 => exact Or.inl ⟨by rfl, by (intro w hSw; (try dsimp only at hSw); go_simp ; exact e7.out)⟩
      simp only [Act.put, List.setIfInBounds_toArray, List.set_cons_zero, List.set_cons_succ]
      refine wpAnyH_take (i := 9) (oi := ?oi24) (v := .slice (some ⟨lb, lo, none⟩) len cap) ?hi24 (by kernel_rfl) (by kernel_rfl) (by kernel_rfl) ?hQ24 ?hy24 (by assumption) ?rest24
      case hi24 => (simp only [List.getElem?_toArray, List.getElem?_cons_zero, List.getElem?_cons_succ]; rfl)
      case hQ24 => exact fun _ _ _ h => h
      case hy24 => exact Or.inl ⟨by rfl, by (intro w hSw; (try dsimp only at hSw); go_simp )⟩
      simp only [Act.put, List.setIfInBounds_toArray, List.set_cons_zero, List.set_cons_succ]
      refine wpAnyH_take (i := 10) (oi := ?oi25) (v := .int .i64 (k : Nat)) ?hi25 (by kernel_rfl) (by kernel_rfl) (by kernel_rfl) ?hQ25 ?hy25 (by assumption) ?rest25
      case hi25 => (simp only [List.getElem?_toArray, List.getElem?_cons_zero, List.getElem?_cons_succ]; rfl)
      case hQ25 => exact fun _ _ _ h => h
      case hy25 => exact Or.inl ⟨by rfl, by (intro w hSw; (try dsimp only at hSw); go_simp )⟩
      simp only [Act.put, List.setIfInBounds_toArray, List.set_cons_zero, List.set_cons_succ]
      refine wpAnyH_take (i := 11) (oi := ?oi26) (v := .pointer (some ⟨lb, lo + k * 2, none⟩)) ?hi26 (by kernel_rfl) (by kernel_rfl) (by kernel_rfl) ?hQ26 ?hy26 (by assumption) ?rest26
      case hi26 => (simp only [List.getElem?_toArray, List.getElem?_cons_zero, List.getElem?_cons_succ]; rfl)
      case hQ26 => exact fun _ _ _ h => h
      case hy26 => exact Or.inl ⟨by rfl, by (intro w hSw; (try dsimp only at hSw); go_simp )⟩
      simp only [Act.put, List.setIfInBounds_toArray, List.set_cons_zero, List.set_cons_succ]
      refine wpAnyH_take (i := 12) (oi := ?oi27) (v := .pointer (some ⟨lb, lo + k * 2 + 1, none⟩)) ?hi27 (by kernel_rfl) (by kernel_rfl) (by kernel_rfl) ?hQ27 ?hy27 (by assumption) ?rest27
      case hi27 => (simp only [List.getElem?_toArray, List.getElem?_cons_zero, List.getElem?_cons_succ]; rfl)
      case hQ27 => exact fun _ _ _ h => h
      case hy27 => exact Or.inl ⟨by rfl, by (intro w hSw; (try dsimp only at hSw); go_simp )⟩
      simp only [Act.put, List.setIfInBounds_toArray, List.set_cons_zero, List.set_cons_succ]
      refine wpAnyH_take (i := 13) (oi := ?oi28) (v := .int .u32 (vv : Nat)) ?hi28 (by kernel_rfl) (by kernel_rfl) (by kernel_rfl) ?hQ28 ?hy28 (by assumption) ?rest28
      case hi28 => (simp only [List.getElem?_toArray, List.getElem?_cons_zero, List.getElem?_cons_succ]; rfl)
      case hQ28 => exact fun _ _ _ h => h
      case hy28 => exact y_cell lb (lo + k * 2 + 1) _ (fun V hV => (hV.cell (p := ⟨lb, lo + k * 2 + 1, none⟩) hlb).trans hc1) _ Tryd.underlying24 rfl rfl
      simp only [Act.put, List.setIfInBounds_toArray, List.set_cons_zero, List.set_cons_succ]
      refine wpAnyH_ready (rs := [0]) (by kernel_rfl) (by simp) ?_
      refine AllReadyH.cons (o := ?oi29) ?hi29 (fun K hK => ?_) AllReadyH.nil
      case hi29 => (simp only [List.getElem?_toArray, List.getElem?_cons_zero]; rfl)
      rw [if_pos (by rfl)]
      (with_reducible refine s_ldR NX r 8192 2 hx ?_ ?_)
      · exact rfl
      have hH2 := hide hHeld
      clear hHeld
      refine hK.out _ _ ?_ (fun hHeld => ?_)
      · exact hH2.out
      clear hK K
      clear hH2
      refine wpAnyH_ready (rs := [14]) (by kernel_rfl) (by simp) ?_
      refine AllReadyH.cons (o := ?oi30) ?hi30 (fun K hK => ?_) AllReadyH.nil
      case hi30 => (simp only [List.getElem?_toArray, List.getElem?_cons_zero, List.getElem?_cons_succ]; rfl)
      go_simp
      (with_reducible refine (HRS.out _ hR.ref).mono ?_)
      rintro e V2 ⟨⟨r2, rfl, hR2, hn2⟩, hbc⟩
      have hH2 := hide (hHeld.trans (hbc.mono (by have := hHeld.size; omega)))
      have hrx2 : ¬ r2.owns NX := fun e => absurd (hn2 _ e) (by have := hx.lt; omega)
      replace hR := hR.next hM hR2 (fun x e => .inr (hn2 x e))
      replace hM := hM.bl hbc
      replace hx := hx.bl hbc
      replace hq := hq.bl hbc
      clear hHeld hbc hR2 hn2
      go_simp
      refine hK.out _ _ ?_ (fun hHeld => ?_)
      · exact hH2.out
      clear hK K
      clear hH2
      refine wpAnyH_take (i := 15) (oi := ?oi31) (v := .tuple #[.agg (r2.v 8192 2), .int .i64 0]) ?hi31 (by kernel_rfl) (by kernel_rfl) (by kernel_rfl) ?hQ31 ?hy31 (by assumption) ?rest31
      case hi31 => (simp only [List.getElem?_toArray, List.getElem?_cons_zero, List.getElem?_cons_succ]; rfl)
      case hQ31 => exact fun _ _ _ h => h
      case hy31 => exact Or.inl ⟨by rfl, by (intro w hSw; (try dsimp only at hSw); go_simp )⟩
      simp only [Act.put, List.setIfInBounds_toArray, List.set_cons_zero, List.set_cons_succ]
      refine wpAnyH_take (i := 16) (oi := ?oi32) (v := .agg (r2.v 8192 2)) ?hi32 (by kernel_rfl) (by kernel_rfl) (by kernel_rfl) ?hQ32 ?hy32 (by assumption) ?rest32
      case hi32 => (simp only [List.getElem?_toArray, List.getElem?_cons_zero, List.getElem?_cons_succ]; rfl)
      case hQ32 => exact fun _ _ _ h => h
      case hy32 => exact Or.inl ⟨by rfl, by (intro w hSw; (try dsimp only at hSw); go_simp )⟩
      simp only [Act.put, List.setIfInBounds_toArray, List.set_cons_zero, List.set_cons_succ]
      refine wpAnyH_take (i := 17) (oi := ?oi33) (v := .int .i64 0) ?hi33 (by kernel_rfl) (by kernel_rfl) (by kernel_rfl) ?hQ33 ?hy33 (by assumption) ?rest33
      case hi33 => (simp only [List.getElem?_toArray, List.getElem?_cons_zero, List.getElem?_cons_succ]; rfl)
      case hQ33 => exact fun _ _ _ h => h
      case hy33 => exact Or.inl ⟨by rfl, by (intro w hSw; (try dsimp only at hSw); go_simp )⟩
      simp only [Act.put, List.setIfInBounds_toArray, List.set_cons_zero, List.set_cons_succ]
      refine wpAnyH_ready (rs := [18]) (by kernel_rfl) (by simp) ?_
      refine AllReadyH.cons (o := ?oi34) ?hi34 (fun K hK => ?_) AllReadyH.nil
      case hi34 => (simp only [List.getElem?_toArray, List.getElem?_cons_zero, List.getElem?_cons_succ]; rfl)
      rw [if_pos (by rfl)]
      (with_reducible refine s_stR NX _ r2 8192 2 hx ?_ ?_ ?_ ?_)
      · exact rfl
      · exact rfl
      · exact rfl
      intro V3 hnew hoo
      have hH2 := hide (hoo.bel _ _ (by omega) hHeld)
      replace hR := hR.only hoo hrx2
      replace hM := hM.only hoo hnx
      replace hq := hq.only hoo (by omega)
      replace hx := hnew
      clear hHeld hnew hoo
      refine hK.out _ _ ?_ (fun hHeld => ?_)
      · exact hH2.out
      clear hK K
      clear hH2
      refine wpAnyH_done (by kernel_rfl) ?_ _
      have hb := hHeld
      clear hHeld
      go_wp2_with (fail)
      go_roundw
      case rel => exact ⟨k + 1, _, _, r2, by omega, by omega, by go_num, HLW.out, hM, hR, hx, hq, hnx, hrx2, hb⟩
      case measure => simp [intOf]; omega
    · have hcase : (¬ k < len) ∨ (k < len ∧ k = 80) := by omega
      have hM9 := hM.more (show k ≤ 80 from hk)
      clear hM
      have HFM : Hid (f = laidW g (min len 80)) := hide (by rw [HFE.out]; congr 1; omega)
      rcases hcase with hnl | ⟨hnl, hk40⟩
      · have t1 : decide ((k : Int) < (len : Int)) = false := by simp; omega
        have t1n : decide (k < len) = false := by simp; omega
        go_wp2_with (fail)
        refine wp_region_held_drew (S := (fun V => RowAt V NX (r.v 8192 2) 29 ∧ RamB V (B + 1) b 2 f 80 O ∧ RefB V (B + 1) 8192 2 f r O ∧ Below B w V)) (by kernel_rfl) ?_ (fun hHeld => ?_)
        · exact ⟨hx.dr, hM9.dr, hR.dr, hb.drew⟩
        replace hq := hq.dr
        generalize World.drew _ = V at hHeld hq ⊢
        clear hx hM9 hR hb
        refine wpAnyH_take (i := 0) (oi := ?oi35) (v := .pointer (some ⟨b, 0, none⟩)) ?hi35 (by kernel_rfl) (by kernel_rfl) (by kernel_rfl) ?hQ35 ?hy35 (by assumption) ?rest35
        case hi35 => (simp only [List.getElem?_toArray, List.getElem?_cons_zero]; rfl)
        case hQ35 => exact fun _ _ _ h => h
        case hy35 => exact Or.inl ⟨by rfl, by (intro w hSw; (try dsimp only at hSw); go_simp )⟩
        simp only [Act.put, List.setIfInBounds_toArray, List.set_cons_zero, List.set_cons_succ]
        refine wpAnyH_take (i := 1) (oi := ?oi36) (v := .agg (r.v 8192 2)) ?hi36 (by kernel_rfl) (by kernel_rfl) (by kernel_rfl) ?hQ36 ?hy36 (by assumption) ?rest36
        case hi36 => (simp only [List.getElem?_toArray, List.getElem?_cons_zero, List.getElem?_cons_succ]; rfl)
        case hQ36 => exact fun _ _ _ h => h
        case hy36 => exact y_Rw NX r 8192 2 (fun V hV => hV.1) rfl
        simp only [Act.put, List.setIfInBounds_toArray, List.set_cons_zero, List.set_cons_succ]
        refine wpAnyH_take (i := 2) (oi := ?oi37) (v := .pointer (some ⟨b, 0, none⟩)) ?hi37 (by kernel_rfl) (by kernel_rfl) (by kernel_rfl) ?hQ37 ?hy37 (by assumption) ?rest37
        case hi37 => (simp only [List.getElem?_toArray, List.getElem?_cons_zero, List.getElem?_cons_succ]; rfl)
        case hQ37 => exact fun _ _ _ h => h
        case hy37 => exact Or.inl ⟨by rfl, by (intro w hSw; (try dsimp only at hSw); go_simp )⟩
        simp only [Act.put, List.setIfInBounds_toArray, List.set_cons_zero, List.set_cons_succ]
        refine wpAnyH_ready (rs := [3]) (by kernel_rfl) (by simp) ?_
        refine AllReadyH.cons (o := ?oi38) ?hi38 (fun K hK => ?_) AllReadyH.nil
        case hi38 => (simp only [List.getElem?_toArray, List.getElem?_cons_zero, List.getElem?_cons_succ]; rfl)
        rw [if_pos (by rfl)]
        (with_reducible refine s_stR B _ r 8192 2 hq ?_ ?_ ?_ ?_)
        · exact rfl
        · exact rfl
        · exact rfl
        intro V3 hnew hoo
        have hH2 := hide (And.intro (hHeld.1.only hoo (by omega)) (And.intro (hHeld.2.1.only hoo (fun e => absurd (hHeld.2.1.low _ e) (by omega))) (And.intro (hHeld.2.2.1.only hoo (fun e => absurd (hHeld.2.2.1.low _ e) (by omega))) (hoo.bel _ _ (Nat.le_refl _) hHeld.2.2.2))))
        replace hq := hnew
        clear hHeld hnew hoo
        refine hK.out _ _ ?_ (fun hHeld => ?_)
        · exact hH2.out
        clear hK K
        clear hH2
        refine wpAnyH_done (by kernel_rfl) ?_ _
        go_wp2_with (fail)
        refine bodyPost_ret (results_tmp_cellB Tryd.results5 _ _ B _ _ _ rfl hq Tryd.underlying29 rfl size_R) rfl ?_
        exact ⟨b, f, O, r, HFM.out, rfl, hHeld.2.1, hHeld.2.2.1, hHeld.2.2.2⟩
      · subst hk40
        have t1 : ((80 : Nat) : Int) < (len : Int) := by omega
        go_wp2_with (fail)
        refine wp_region_held_drew (S := (fun V => RowAt V NX (r.v 8192 2) 29 ∧ RamB V (B + 1) b 2 f 80 O ∧ RefB V (B + 1) 8192 2 f r O ∧ Below B w V)) (by kernel_rfl) ?_ (fun hHeld => ?_)
        · exact ⟨hx.dr, hM9.dr, hR.dr, hb.drew⟩
        replace hq := hq.dr
        generalize World.drew _ = V at hHeld hq ⊢
        clear hx hM9 hR hb
        refine wpAnyH_take (i := 0) (oi := ?oi39) (v := .pointer (some ⟨b, 0, none⟩)) ?hi39 (by kernel_rfl) (by kernel_rfl) (by kernel_rfl) ?hQ39 ?hy39 (by assumption) ?rest39
        case hi39 => (simp only [List.getElem?_toArray, List.getElem?_cons_zero]; rfl)
        case hQ39 => exact fun _ _ _ h => h
        case hy39 => exact Or.inl ⟨by rfl, by (intro w hSw; (try dsimp only at hSw); go_simp )⟩
        simp only [Act.put, List.setIfInBounds_toArray, List.set_cons_zero, List.set_cons_succ]
        refine wpAnyH_take (i := 1) (oi := ?oi40) (v := .agg (r.v 8192 2)) ?hi40 (by kernel_rfl) (by kernel_rfl) (by kernel_rfl) ?hQ40 ?hy40 (by assumption) ?rest40
        case hi40 => (simp only [List.getElem?_toArray, List.getElem?_cons_zero, List.getElem?_cons_succ]; rfl)
        case hQ40 => exact fun _ _ _ h => h
        case hy40 => exact y_Rw NX r 8192 2 (fun V hV => hV.1) rfl
        simp only [Act.put, List.setIfInBounds_toArray, List.set_cons_zero, List.set_cons_succ]
        refine wpAnyH_take (i := 2) (oi := ?oi41) (v := .pointer (some ⟨b, 0, none⟩)) ?hi41 (by kernel_rfl) (by kernel_rfl) (by kernel_rfl) ?hQ41 ?hy41 (by assumption) ?rest41
        case hi41 => (simp only [List.getElem?_toArray, List.getElem?_cons_zero, List.getElem?_cons_succ]; rfl)
        case hQ41 => exact fun _ _ _ h => h
        case hy41 => exact Or.inl ⟨by rfl, by (intro w hSw; (try dsimp only at hSw); go_simp )⟩
        simp only [Act.put, List.setIfInBounds_toArray, List.set_cons_zero, List.set_cons_succ]
        refine wpAnyH_ready (rs := [3]) (by kernel_rfl) (by simp) ?_
        refine AllReadyH.cons (o := ?oi42) ?hi42 (fun K hK => ?_) AllReadyH.nil
        case hi42 => (simp only [List.getElem?_toArray, List.getElem?_cons_zero, List.getElem?_cons_succ]; rfl)
        rw [if_pos (by rfl)]
        (with_reducible refine s_stR B _ r 8192 2 hq ?_ ?_ ?_ ?_)
        · exact rfl
        · exact rfl
        · exact rfl
        intro V3 hnew hoo
        have hH2 := hide (And.intro (hHeld.1.only hoo (by omega)) (And.intro (hHeld.2.1.only hoo (fun e => absurd (hHeld.2.1.low _ e) (by omega))) (And.intro (hHeld.2.2.1.only hoo (fun e => absurd (hHeld.2.2.1.low _ e) (by omega))) (hoo.bel _ _ (Nat.le_refl _) hHeld.2.2.2))))
        replace hq := hnew
        clear hHeld hnew hoo
        refine hK.out _ _ ?_ (fun hHeld => ?_)
        · exact hH2.out
        clear hK K
        clear hH2
        refine wpAnyH_done (by kernel_rfl) ?_ _
        go_wp2_with (fail)
        refine bodyPost_ret (results_tmp_cellB Tryd.results5 _ _ B _ _ _ rfl hq Tryd.underlying29 rfl size_R) rfl ?_
        exact ⟨b, f, O, r, HFM.out, rfl, hHeld.2.1, hHeld.2.2.1, hHeld.2.2.2⟩
end Go.Proofs.YtbggkoahofnnjaaDoor
namespace Go.Proofs.YtbggkoahofnnjaaDoor
open Go.RowKit
set_option linter.unusedVariables false
set_option linter.unusedSimpArgs false

theorem ir_or1 : ∀ n, n ≤ 3 → n ||| 1 ≤ 3 := by decide
theorem mayV_used {s : V} (h : mayV s = true) : mayV (usedV s) = true := by
  rw [mayV_iff] at h ⊢
  exact ⟨h.st, ir_or1 _ h.ir, h.se, h.q0, h.q1⟩
/-- A ring with another count. -/
structure RgSame (r r' : Rg) : Prop where
  sz : r'.sz = r.sz
  de : r'.de = r.de
  av : r'.av = r.av
  us : r'.us = r.us
theorem RgSame.refl (r : Rg) : RgSame r r := ⟨rfl, rfl, rfl, rfl⟩
theorem RgSame.trans {a b c : Rg} (h : RgSame a b) (k : RgSame b c) : RgSame a c := ⟨k.sz.trans h.sz, k.de.trans h.de, k.av.trans h.av, k.us.trans h.us⟩
theorem RgSame.chk {a b : Rg} (h : RgSame a b) : chkR b = chkR a := by unfold chkR alR; rw [h.sz, h.de, h.av, h.us]
theorem mayQ_same {q : Qu} {r : Rg} (h : mayQ q = true) (k : RgSame q.r r) : mayQ (q.rw' r) = true := by
  show (if q.rd = true then chkR r else (decide (0 ≤ r.sz) && decide (r.sz ≤ 256))) = true
  rw [k.chk, k.sz]
  exact h
theorem next_same {p : Nat} {f : Nat → Nat} {r : Rg} {e : Nat} {c : Cn} {l : List Sg} (h : ncNext p f r = (e, some (c, l))) (hr : r.Ok) : RgSame r c.r ∧ c.r.Ok ∧ chkR c.r = true := by
  have hv : (nextV p f r).2.2.1 = true → RgSame r (nextV p f r).1 ∧ (nextV p f r).1.Ok ∧ chkR (nextV p f r).1 = true := by
    unfold nextV
    repeat' split
    all_goals intro q
    all_goals first
      | (exfalso; simp at q; done)
      | exact ⟨⟨rfl, rfl, rfl, rfl⟩, ⟨hr.sz0, hr.sz1, hr.de, hr.av, hr.us, Nat.mod_lt _ (by decide), hr.pu⟩, by assumption⟩
  unfold ncNext at h
  split at h
  · split at h
    · rename_i q
      split at h
      · cases h
      · cases h; exact hv q
    · cases h
  · cases h
theorem give_same {p : Nat} {f : Nat → Nat} {r r' : Rg} {hd : Int} {n : Nat} (e : (giveV p f r hd n).2 = some r') : RgSame r r' := by
  unfold giveV at e
  repeat' split at e
  all_goals first
    | (cases e; exact ⟨rfl, rfl, rfl, rfl⟩)
    | cases e
theorem qw_q (s : V) (i : Nat) (q : Qu) (hi : i < 2) : (s.qw i q).q i = q := by
  rcases (show i = 0 ∨ i = 1 by omega) with rfl | rfl <;> rfl
theorem qw_ok {s : V} (h : s.Ok) (i : Nat) {q : Qu} (hq : q.r.Ok) : (s.qw i q).Ok := by
  unfold V.qw
  split
  · exact ⟨h.st, h.fs, h.ds, h.se, h.ir, h.d0, h.d1, hq, h.q1⟩
  · exact ⟨h.st, h.fs, h.ds, h.se, h.ir, h.d0, h.d1, h.q0, hq⟩
theorem usedV_ok {s : V} (h : s.Ok) : (usedV s).Ok := ⟨h.st, h.fs, h.ds, h.se, or_lt32 h.ir (by decide), h.d0, h.d1, h.q0, h.q1⟩
theorem ans_keep {p : Nat} {f : Nat → Nat} {s : V} {q : Nat} {c : Cn} {l : List Sg} {b : List Nat} (hq : q < 2) (ok : s.Ok) (hc : c.r.Ok) : (ncAns p f s q c l b).2.1.Ok ∧ (mayV s = true → RgSame (s.q q).r c.r → mayV (ncAns p f s q c l b).2.1 = true) := by
  have o1 := qw_ok ok q (q := (s.q q).rw' c.r) hc
  have m1 : mayV s = true → RgSame (s.q q).r c.r → mayV (s.qw q ((s.q q).rw' c.r)) = true := fun h k => by
    rw [mayV_iff] at h ⊢
    exact mayV_qw h q (mayQ_same (mayV_q h q) k)
  unfold ncAns
  split
  · split
    · exact ⟨failV_ok o1, fun h k => mayV_fail (m1 h k)⟩
    · rename_i r hg
      have hro := givenR_ok hc hg
      refine ⟨usedV_ok (qw_ok o1 q hro), fun h k => mayV_used ?_⟩
      have h1 := m1 h k
      rw [mayV_iff] at h1 ⊢
      refine mayV_qw h1 q (mayQ_same (mayV_q h1 q) ?_)
      rw [qw_q _ _ _ hq]
      exact give_same hg
  · exact ⟨failV_ok o1, fun h k => mayV_fail (m1 h k)⟩
/-- What a state keeps. -/
structure NKept (s t : Nc) : Prop where
  ok : t.Ok
  may : mayV s.p = true → mayV t.p = true
theorem NKept.trans {a b c : Nc} (h : NKept a b) (k : NKept b c) : NKept a c := ⟨k.ok, fun e => k.may (h.may e)⟩
theorem NKept.refl {s : Nc} (ok : s.Ok) : NKept s s := ⟨ok, id⟩
theorem takeV_no {p : Nat} {f : Nat → Nat} {s : Nc} {b : List Nat} (hb : isFr (b.length : Int) = false) : takeV p f s b = (f, zeroNc, false, 2) := by
  unfold takeV; rw [hb]; rfl
end Go.Proofs.YtbggkoahofnnjaaDoor
