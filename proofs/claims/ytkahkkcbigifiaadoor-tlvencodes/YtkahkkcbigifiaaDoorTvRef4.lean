/-
  The document's files: Encode.
-/
import Derived.Test.YtkahkkcbigifiaaDoorTvSec
import Derived.Test.YtkahkkcbigifiaaDoorTvRFind
namespace Go.Proofs.YtkahkkcbigifiaaDoor
open Go.RowKit
set_option linter.unusedVariables false
set_option linter.unusedSimpArgs false

theorem und_sc : Tryd.prog.underlying 23 = some (.slice 78) := Tryd.underlying23
theorem siz_sc : ∀ w : World, (sizeOf 78).run Tryd.prog w = .ok 2 w := fun w => by kernel_rfl
variable {P : Program} {ops : Array Oper} {rest : List Oper} {dst : Option Tmp} {ty t t2 : TypeId} {pos : String} {after : Array Edge} {a : Act} {w : World} {Q : Exit → Act → World → Prop} {K : Act → World → Prop} {x y z : Operand} {gd : Option (Nat × Bool)}
theorem ex_idx2 (b off len cap k : Nat) (hk : k < len) (hx : a.eval x = .slice (some ⟨b, off, none⟩) len cap) (hy : a.eval y = .int .i64 (k : Nat)) (w : World) :
    (execOp a.eval ⟨dst, .indexAddr 23 x y, ty, pos, after, gd⟩).run Tryd.prog w = .ok (.value (.pointer (some ⟨b, off + k * 2, none⟩))) w := by
  have hk1 : (0 : Int) ≤ (k : Int) ∧ (k : Int) < (len : Int) := by omega
  have hk2 : ¬ len ≤ k := by omega
  unfold execOp
  simp [hx, hy, Instr.indexAt, asIntOf, run_underlying und_sc, hk1, hk2, siz_sc, Addr.add_lit]
def SzRel (L : List Sct) (n N : Nat) (w0 : World) (sv iv : Value) (wr : World) : Prop := ∃ k : Nat, k ≤ n ∧ iv = .int .i64 (k : Nat) ∧ sv = .int .i64 (sizeL (L.take k) : Nat) ∧ (∀ j (h : j + 1 < L.length), j + 1 < k → L[j].tag < L[j + 1].tag) ∧ Below N w0 wr
set_option maxRecDepth 100000 in
set_option maxHeartbeats 8000000 in
theorem rencode_any {B : Nat} {v : Value} {L : List Sct} (w : World) (h : Secs B w v L) (hB : B ≤ w.heap.size) (ver : Nat) (hv : ver < 4294967296) (hL : L.length ≤ 300) (hsz : sizeL L ≤ 100000) :
    Calls Tryd.prog 13 #[.int .u32 (ver : Nat), v] w fun e w' => ∃ v', e = .returned (.tuple #[v', .int .i64 (encE L : Nat)]) ∧ Rd w'.heap.size w' v' (encB ver L) ∧ Below w.heap.size w w' := by
  obtain ⟨i0, hi0, hz0, hs0, hb0⟩ := info_u8
  have HI := hide hi0
  have HZ := hide hz0
  have HS := hide hs0
  have HB := hide hb0
  clear hi0 hz0 hs0 hb0
  have HSE := hide h
  have HSZ := hide hsz
  obtain ⟨ad, cap, rfl, hcap, hmax⟩ := h.form
  obtain ⟨n, hn⟩ : ∃ n, L.length = n := ⟨_, rfl⟩
  have HN := hide hn
  have HAB : ∀ k, k < n → ∃ b off, ad = some ⟨b, off, none⟩ := fun k hk => by
    obtain ⟨b, off, cap', e, _⟩ := h.all (by omega)
    injection e with e _ _
    exact ⟨b, off, e⟩
  have HBL := hide (fun s hs => b_le L s hs)
  rw [hn] at hcap hL ⊢
  clear h hn hsz
  have hb : Below w.heap.size w w := Below.refl _ w
  go_enter Tryd.func13, Tryd.ntmps13
  go_wp2
  go_loopw [6, 7] (SzRel L n w.heap.size w) (fun _ iv _ => n - (intOf iv).toNat)
  case atStart => exact ⟨0, Nat.zero_le _, rfl, by simp [sizeL], fun j h1 h2 => absurd h2 (by omega), hb⟩
  case round =>
    clear hb
    obtain ⟨k, hk, rfl, rfl, hasc, hb⟩ := hrel
    have HAS := hide hasc
    clear hasc
    by_cases hlt : k < n
    · obtain ⟨b, off, rfl⟩ := HAB k hlt
      have HC : Hid (∀ j (hj : j < L.length), w.cell? ⟨b, off + j * 2, none⟩ = some (.int .u32 (L[j].tag : Nat)) ∧ ∃ u, w.cell? ⟨b, off + j * 2 + 1, none⟩ = some u ∧ Rd B w u L[j].b) := by
        obtain ⟨b', off', cap', e, _, _, _, HC⟩ := HSE.out.all (by have := HN.out; omega)
        injection e with e _ _
        injection e with e
        injection e with e1 e2 _
        subst e1 e2
        exact HC
      have hbB : b < w.heap.size := by
        obtain ⟨b', off', cap', e, _, _, hb', _⟩ := HSE.out.all (by have := HN.out; omega)
        injection e with e _ _
        injection e with e
        injection e with e1 e2 _
        subst e1
        omega
      have hkl : k < L.length := by have := HN.out; omega
      obtain ⟨c1, u, c2, c3⟩ := HC.out k hkl
      obtain ⟨au, cu, hu, hcu, hmu⟩ := c3.form
      subst hu
      have HSC := hide (size_succ L k hkl)
      have hsl := hide (size_le L k)
      have hsl1 := hide (size_le L (k + 1))
      have hbl := HBL.out _ (List.getElem_mem hkl)
      have HCT := hide c1
      have HCU := hide c2
      have hszk : sizeL (L.take k) ≤ 100000 := Nat.le_trans hsl.out HSZ.out
      have hblk : L[k].b.length ≤ 100000 := by have := HSZ.out; omega
      clear c1 c2 c3 hbl
      rcases k with _ | k
      · go_wp2
        refine wp_region_held_drew (S := (fun U => Below w.heap.size w U)) (by kernel_rfl) ?_ (fun hHeld => ?_)
        · exact hb.drew
        generalize wr.drew = V at hHeld ⊢
        refine wpAnyH_take (i := 0) (oi := ?oi1) (v := .int .i64 ((0 : Nat) : Int)) ?hi1 (by kernel_rfl) (by kernel_rfl) (by kernel_rfl) ?hQ1 ?hy1 (by assumption) ?rest1
        case hi1 => (simp only [List.getElem?_toArray, List.getElem?_cons_zero]; rfl)
        case hQ1 => exact fun _ _ _ h => h
        case hy1 => exact Or.inl ⟨by rfl, by (intro w hSw; (try dsimp only at hSw); go_simp )⟩
        simp only [Act.put, List.setIfInBounds_toArray, List.set_cons_zero, List.set_cons_succ]
        refine wpAnyH_take (i := 1) (oi := ?oi2) (v := .bool false) ?hi2 (by kernel_rfl) (by kernel_rfl) (by kernel_rfl) ?hQ2 ?hy2 (by assumption) ?rest2
        case hi2 => (simp only [List.getElem?_toArray, List.getElem?_cons_zero, List.getElem?_cons_succ]; rfl)
        case hQ2 => exact fun _ _ _ h => h
        case hy2 => exact Or.inl ⟨by rfl, by (intro w hSw; go_simp)⟩
        simp only [Act.put, List.setIfInBounds_toArray, List.set_cons_zero, List.set_cons_succ]
        refine wpAnyH_take (i := 2) (oi := ?oi3) (v := .bool false) ?hi3 (by kernel_rfl) (by kernel_rfl) (by kernel_rfl) ?hQ3 ?hy3 (by assumption) ?rest3
        case hi3 => (simp only [List.getElem?_toArray, List.getElem?_cons_zero, List.getElem?_cons_succ]; rfl)
        case hQ3 => exact fun _ _ _ h => h
        case hy3 => exact Or.inl ⟨by rfl, by (intro w hSw; (try dsimp only at hSw); go_simp )⟩
        simp only [Act.put, List.setIfInBounds_toArray, List.set_cons_zero, List.set_cons_succ]
        refine wpAnyH_take (i := 3) (oi := ?oi4) (v := undef) ?hi4 (by kernel_rfl) (by kernel_rfl) (by kernel_rfl) ?hQ4 ?hy4 (by assumption) ?rest4
        case hi4 => (simp only [List.getElem?_toArray, List.getElem?_cons_zero, List.getElem?_cons_succ]; rfl)
        case hQ4 => exact fun _ _ _ h => h
        case hy4 => exact Or.inr ⟨by rfl, rfl⟩
        simp only [Act.put, List.setIfInBounds_toArray, List.set_cons_zero, List.set_cons_succ]
        refine wpAnyH_take (i := 4) (oi := ?oi5) (v := undef) ?hi5 (by kernel_rfl) (by kernel_rfl) (by kernel_rfl) ?hQ5 ?hy5 (by assumption) ?rest5
        case hi5 => (simp only [List.getElem?_toArray, List.getElem?_cons_zero, List.getElem?_cons_succ]; rfl)
        case hQ5 => exact fun _ _ _ h => h
        case hy5 => exact Or.inr ⟨by rfl, rfl⟩
        simp only [Act.put, List.setIfInBounds_toArray, List.set_cons_zero, List.set_cons_succ]
        refine wpAnyH_take (i := 5) (oi := ?oi6) (v := undef) ?hi6 (by kernel_rfl) (by kernel_rfl) (by kernel_rfl) ?hQ6 ?hy6 (by assumption) ?rest6
        case hi6 => (simp only [List.getElem?_toArray, List.getElem?_cons_zero, List.getElem?_cons_succ]; rfl)
        case hQ6 => exact fun _ _ _ h => h
        case hy6 => exact Or.inr ⟨by rfl, rfl⟩
        simp only [Act.put, List.setIfInBounds_toArray, List.set_cons_zero, List.set_cons_succ]
        refine wpAnyH_take (i := 6) (oi := ?oi7) (v := undef) ?hi7 (by kernel_rfl) (by kernel_rfl) (by kernel_rfl) ?hQ7 ?hy7 (by assumption) ?rest7
        case hi7 => (simp only [List.getElem?_toArray, List.getElem?_cons_zero, List.getElem?_cons_succ]; rfl)
        case hQ7 => exact fun _ _ _ h => h
        case hy7 => exact Or.inr ⟨by rfl, rfl⟩
        simp only [Act.put, List.setIfInBounds_toArray, List.set_cons_zero, List.set_cons_succ]
        refine wpAnyH_take (i := 7) (oi := ?oi8) (v := undef) ?hi8 (by kernel_rfl) (by kernel_rfl) (by kernel_rfl) ?hQ8 ?hy8 (by assumption) ?rest8
        case hi8 => (simp only [List.getElem?_toArray, List.getElem?_cons_zero, List.getElem?_cons_succ]; rfl)
        case hQ8 => exact fun _ _ _ h => h
        case hy8 => exact Or.inr ⟨by rfl, rfl⟩
        simp only [Act.put, List.setIfInBounds_toArray, List.set_cons_zero, List.set_cons_succ]
        refine wpAnyH_take (i := 8) (oi := ?oi9) (v := undef) ?hi9 (by kernel_rfl) (by kernel_rfl) (by kernel_rfl) ?hQ9 ?hy9 (by assumption) ?rest9
        case hi9 => (simp only [List.getElem?_toArray, List.getElem?_cons_zero, List.getElem?_cons_succ]; rfl)
        case hQ9 => exact fun _ _ _ h => h
        case hy9 => exact Or.inr ⟨by rfl, rfl⟩
        simp only [Act.put, List.setIfInBounds_toArray, List.set_cons_zero, List.set_cons_succ]
        refine wpAnyH_take (i := 9) (oi := ?oi10) (v := undef) ?hi10 (by kernel_rfl) (by kernel_rfl) (by kernel_rfl) ?hQ10 ?hy10 (by assumption) ?rest10
        case hi10 => (simp only [List.getElem?_toArray, List.getElem?_cons_zero, List.getElem?_cons_succ]; rfl)
        case hQ10 => exact fun _ _ _ h => h
        case hy10 => exact Or.inr ⟨by rfl, rfl⟩
        simp only [Act.put, List.setIfInBounds_toArray, List.set_cons_zero, List.set_cons_succ]
        refine wpAnyH_take (i := 10) (oi := ?oi11) (v := undef) ?hi11 (by kernel_rfl) (by kernel_rfl) (by kernel_rfl) ?hQ11 ?hy11 (by assumption) ?rest11
        case hi11 => (simp only [List.getElem?_toArray, List.getElem?_cons_zero, List.getElem?_cons_succ]; rfl)
        case hQ11 => exact fun _ _ _ h => h
        case hy11 => exact Or.inr ⟨by rfl, rfl⟩
        simp only [Act.put, List.setIfInBounds_toArray, List.set_cons_zero, List.set_cons_succ]
        refine wpAnyH_take (i := 11) (oi := ?oi12) (v := undef) ?hi12 (by kernel_rfl) (by kernel_rfl) (by kernel_rfl) ?hQ12 ?hy12 (by assumption) ?rest12
        case hi12 => (simp only [List.getElem?_toArray, List.getElem?_cons_zero, List.getElem?_cons_succ]; rfl)
        case hQ12 => exact fun _ _ _ h => h
        case hy12 => exact Or.inr ⟨by rfl, rfl⟩
        simp only [Act.put, List.setIfInBounds_toArray, List.set_cons_zero, List.set_cons_succ]
        refine wpAnyH_take (i := 12) (oi := ?oi13) (v := undef) ?hi13 (by kernel_rfl) (by kernel_rfl) (by kernel_rfl) ?hQ13 ?hy13 (by assumption) ?rest13
        case hi13 => (simp only [List.getElem?_toArray, List.getElem?_cons_zero, List.getElem?_cons_succ]; rfl)
        case hQ13 => exact fun _ _ _ h => h
        case hy13 => exact Or.inr ⟨by rfl, rfl⟩
        simp only [Act.put, List.setIfInBounds_toArray, List.set_cons_zero, List.set_cons_succ]
        refine wpAnyH_take (i := 13) (oi := ?oi14) (v := undef) ?hi14 (by kernel_rfl) (by kernel_rfl) (by kernel_rfl) ?hQ14 ?hy14 (by assumption) ?rest14
        case hi14 => (simp only [List.getElem?_toArray, List.getElem?_cons_zero, List.getElem?_cons_succ]; rfl)
        case hQ14 => exact fun _ _ _ h => h
        case hy14 => exact Or.inr ⟨by rfl, rfl⟩
        simp only [Act.put, List.setIfInBounds_toArray, List.set_cons_zero, List.set_cons_succ]
        refine wpAnyH_take (i := 14) (oi := ?oi15) (v := undef) ?hi15 (by kernel_rfl) (by kernel_rfl) (by kernel_rfl) ?hQ15 ?hy15 (by assumption) ?rest15
        case hi15 => (simp only [List.getElem?_toArray, List.getElem?_cons_zero, List.getElem?_cons_succ]; rfl)
        case hQ15 => exact fun _ _ _ h => h
        case hy15 => exact Or.inr ⟨by rfl, rfl⟩
        simp only [Act.put, List.setIfInBounds_toArray, List.set_cons_zero, List.set_cons_succ]
        refine wpAnyH_take (i := 15) (oi := ?oi16) (v := .bool false) ?hi16 (by kernel_rfl) (by kernel_rfl) (by kernel_rfl) ?hQ16 ?hy16 (by assumption) ?rest16
        case hi16 => (simp only [List.getElem?_toArray, List.getElem?_cons_zero, List.getElem?_cons_succ]; rfl)
        case hQ16 => exact fun _ _ _ h => h
        case hy16 => exact Or.inl ⟨by rfl, by (intro w hSw; (try dsimp only at hSw); go_simp )⟩
        simp only [Act.put, List.setIfInBounds_toArray, List.set_cons_zero, List.set_cons_succ]
        refine wpAnyH_done (by kernel_rfl) ?_ _
        have HCU2 := hide ((hHeld.cell (p := ⟨b, off + 0 * 2 + 1, none⟩) hbB).trans HCU.out)
        have hcu2 := HCU2.out
        have hb := hHeld
        generalize hgl : L[0].b.length = ln at *
        generalize hgs : sizeL (L.take (0)) = sz at *
        clear hHeld hgl hgs
        go_wp2
        go_roundw
        case rel => exact ⟨0 + 1, hlt, by go_num, by rw [HSC.out]; go_num, fun j h1 h2 => absurd h2 (by omega), hb⟩
        case measure => simp [intOf]; omega
      · have hkp : k < L.length := by omega
        have HCP := hide (HC.out k hkp).1
        by_cases hgt : L[k + 1].tag ≤ L[k].tag
        · have HE := hide (show encE L = 31 by
            unfold encE
            rw [if_pos]
            refine Bool.eq_false_iff.2 fun ht => ?_
            have := (asc_iff L).1 ht k hkl
            omega)
          go_wp2
          refine wp_region_held_drew (S := (fun U => Below w.heap.size w U)) (by kernel_rfl) ?_ (fun hHeld => ?_)
          · exact hb.drew
          generalize wr.drew = V at hHeld ⊢
          refine wpAnyH_take (i := 0) (oi := ?oi17) (v := .int .i64 ((k + 1 : Nat) : Int)) ?hi17 (by kernel_rfl) (by kernel_rfl) (by kernel_rfl) ?hQ17 ?hy17 (by assumption) ?rest17
          case hi17 => (simp only [List.getElem?_toArray, List.getElem?_cons_zero]; rfl)
          case hQ17 => exact fun _ _ _ h => h
          case hy17 => exact Or.inl ⟨by rfl, by (intro w hSw; (try dsimp only at hSw); go_simp )⟩
          simp only [Act.put, List.setIfInBounds_toArray, List.set_cons_zero, List.set_cons_succ]
          refine wpAnyH_take (i := 1) (oi := ?oi18) (v := .bool true) ?hi18 (by kernel_rfl) (by kernel_rfl) (by kernel_rfl) ?hQ18 ?hy18 (by assumption) ?rest18
          case hi18 => (simp only [List.getElem?_toArray, List.getElem?_cons_zero, List.getElem?_cons_succ]; rfl)
          case hQ18 => exact fun _ _ _ h => h
          case hy18 => exact Or.inl ⟨by rfl, by (intro w hSw; go_simp)⟩
          simp only [Act.put, List.setIfInBounds_toArray, List.set_cons_zero, List.set_cons_succ]
          refine wpAnyH_take (i := 2) (oi := ?oi19) (v := .bool true) ?hi19 (by kernel_rfl) (by kernel_rfl) (by kernel_rfl) ?hQ19 ?hy19 (by assumption) ?rest19
          case hi19 => (simp only [List.getElem?_toArray, List.getElem?_cons_zero, List.getElem?_cons_succ]; rfl)
          case hQ19 => exact fun _ _ _ h => h
          case hy19 => exact Or.inl ⟨by rfl, by (intro w hSw; (try dsimp only at hSw); go_simp )⟩
          simp only [Act.put, List.setIfInBounds_toArray, List.set_cons_zero, List.set_cons_succ]
          refine wpAnyH_take (i := 3) (oi := ?oi20) (v := .slice (some ⟨b, off, none⟩) n cap) ?hi20 (by kernel_rfl) (by kernel_rfl) (by kernel_rfl) ?hQ20 ?hy20 (by assumption) ?rest20
          case hi20 => (simp only [List.getElem?_toArray, List.getElem?_cons_zero, List.getElem?_cons_succ]; rfl)
          case hQ20 => exact fun _ _ _ h => h
          case hy20 => exact Or.inl ⟨by rfl, by (intro w hSw; (try dsimp only at hSw); go_simp )⟩
          simp only [Act.put, List.setIfInBounds_toArray, List.set_cons_zero, List.set_cons_succ]
          refine wpAnyH_take (i := 4) (oi := ?oi21) (v := .int .i64 ((k + 1 : Nat) : Int)) ?hi21 (by kernel_rfl) (by kernel_rfl) (by kernel_rfl) ?hQ21 ?hy21 (by assumption) ?rest21
          case hi21 => (simp only [List.getElem?_toArray, List.getElem?_cons_zero, List.getElem?_cons_succ]; rfl)
          case hQ21 => exact fun _ _ _ h => h
          case hy21 => exact Or.inl ⟨by rfl, by (intro w hSw; (try dsimp only at hSw); go_simp )⟩
          simp only [Act.put, List.setIfInBounds_toArray, List.set_cons_zero, List.set_cons_succ]
          refine wpAnyH_take (i := 5) (oi := ?oi22) (v := .int .i64 (k : Nat)) ?hi22 (by kernel_rfl) (by kernel_rfl) (by kernel_rfl) ?hQ22 ?hy22 (by assumption) ?rest22
          case hi22 => (simp only [List.getElem?_toArray, List.getElem?_cons_zero, List.getElem?_cons_succ]; rfl)
          case hQ22 => exact fun _ _ _ h => h
          case hy22 => exact Or.inl ⟨by rfl, by (intro w hSw; go_simp; exact i64_in _ (by omega) (by omega))⟩
          simp only [Act.put, List.setIfInBounds_toArray, List.set_cons_zero, List.set_cons_succ]
          refine wpAnyH_take (i := 6) (oi := ?oi23) (v := .pointer (some ⟨b, off + k * 2, none⟩)) ?hi23 (by kernel_rfl) (by kernel_rfl) (by kernel_rfl) ?hQ23 ?hy23 (by assumption) ?rest23
          case hi23 => (simp only [List.getElem?_toArray, List.getElem?_cons_zero, List.getElem?_cons_succ]; rfl)
          case hQ23 => exact fun _ _ _ h => h
          case hy23 => exact Or.inl ⟨by rfl, fun U hU => ex_idx2 b off n cap k (by omega) rfl rfl U⟩
          simp only [Act.put, List.setIfInBounds_toArray, List.set_cons_zero, List.set_cons_succ]
          refine wpAnyH_take (i := 7) (oi := ?oi24) (v := .pointer (some ⟨b, off + k * 2, none⟩)) ?hi24 (by kernel_rfl) (by kernel_rfl) (by kernel_rfl) ?hQ24 ?hy24 (by assumption) ?rest24
          case hi24 => (simp only [List.getElem?_toArray, List.getElem?_cons_zero, List.getElem?_cons_succ]; rfl)
          case hQ24 => exact fun _ _ _ h => h
          case hy24 => exact Or.inl ⟨by rfl, by (intro w hSw; (try dsimp only at hSw); go_simp )⟩
          simp only [Act.put, List.setIfInBounds_toArray, List.set_cons_zero, List.set_cons_succ]
          refine wpAnyH_take (i := 8) (oi := ?oi25) (v := .int .u32 (L[k].tag : Nat)) ?hi25 (by kernel_rfl) (by kernel_rfl) (by kernel_rfl) ?hQ25 ?hy25 (by assumption) ?rest25
          case hi25 => (simp only [List.getElem?_toArray, List.getElem?_cons_zero, List.getElem?_cons_succ]; rfl)
          case hQ25 => exact fun _ _ _ h => h
          case hy25 => exact y_any b (off + k * 2) _ (fun U hU => (hU.cell (p := ⟨b, off + k * 2, none⟩) hbB).trans HCP.out) _ Tryd.underlying22 rfl rfl rfl
          simp only [Act.put, List.setIfInBounds_toArray, List.set_cons_zero, List.set_cons_succ]
          refine wpAnyH_take (i := 9) (oi := ?oi26) (v := .slice (some ⟨b, off, none⟩) n cap) ?hi26 (by kernel_rfl) (by kernel_rfl) (by kernel_rfl) ?hQ26 ?hy26 (by assumption) ?rest26
          case hi26 => (simp only [List.getElem?_toArray, List.getElem?_cons_zero, List.getElem?_cons_succ]; rfl)
          case hQ26 => exact fun _ _ _ h => h
          case hy26 => exact Or.inl ⟨by rfl, by (intro w hSw; (try dsimp only at hSw); go_simp )⟩
          simp only [Act.put, List.setIfInBounds_toArray, List.set_cons_zero, List.set_cons_succ]
          refine wpAnyH_take (i := 10) (oi := ?oi27) (v := .int .i64 ((k + 1 : Nat) : Int)) ?hi27 (by kernel_rfl) (by kernel_rfl) (by kernel_rfl) ?hQ27 ?hy27 (by assumption) ?rest27
          case hi27 => (simp only [List.getElem?_toArray, List.getElem?_cons_zero, List.getElem?_cons_succ]; rfl)
          case hQ27 => exact fun _ _ _ h => h
          case hy27 => exact Or.inl ⟨by rfl, by (intro w hSw; (try dsimp only at hSw); go_simp )⟩
          simp only [Act.put, List.setIfInBounds_toArray, List.set_cons_zero, List.set_cons_succ]
          refine wpAnyH_take (i := 11) (oi := ?oi28) (v := .pointer (some ⟨b, off + (k + 1) * 2, none⟩)) ?hi28 (by kernel_rfl) (by kernel_rfl) (by kernel_rfl) ?hQ28 ?hy28 (by assumption) ?rest28
          case hi28 => (simp only [List.getElem?_toArray, List.getElem?_cons_zero, List.getElem?_cons_succ]; rfl)
          case hQ28 => exact fun _ _ _ h => h
          case hy28 => exact Or.inl ⟨by rfl, fun U hU => ex_idx2 b off n cap (k + 1) (by omega) rfl rfl U⟩
          simp only [Act.put, List.setIfInBounds_toArray, List.set_cons_zero, List.set_cons_succ]
          refine wpAnyH_take (i := 12) (oi := ?oi29) (v := .pointer (some ⟨b, off + (k + 1) * 2, none⟩)) ?hi29 (by kernel_rfl) (by kernel_rfl) (by kernel_rfl) ?hQ29 ?hy29 (by assumption) ?rest29
          case hi29 => (simp only [List.getElem?_toArray, List.getElem?_cons_zero, List.getElem?_cons_succ]; rfl)
          case hQ29 => exact fun _ _ _ h => h
          case hy29 => exact Or.inl ⟨by rfl, by (intro w hSw; (try dsimp only at hSw); go_simp )⟩
          simp only [Act.put, List.setIfInBounds_toArray, List.set_cons_zero, List.set_cons_succ]
          refine wpAnyH_take (i := 13) (oi := ?oi30) (v := .int .u32 (L[k + 1].tag : Nat)) ?hi30 (by kernel_rfl) (by kernel_rfl) (by kernel_rfl) ?hQ30 ?hy30 (by assumption) ?rest30
          case hi30 => (simp only [List.getElem?_toArray, List.getElem?_cons_zero, List.getElem?_cons_succ]; rfl)
          case hQ30 => exact fun _ _ _ h => h
          case hy30 => exact y_any b (off + (k + 1) * 2) _ (fun U hU => (hU.cell (p := ⟨b, off + (k + 1) * 2, none⟩) hbB).trans HCT.out) _ Tryd.underlying22 rfl rfl rfl
          simp only [Act.put, List.setIfInBounds_toArray, List.set_cons_zero, List.set_cons_succ]
          refine wpAnyH_take (i := 14) (oi := ?oi31) (v := .bool true) ?hi31 (by kernel_rfl) (by kernel_rfl) (by kernel_rfl) ?hQ31 ?hy31 (by assumption) ?rest31
          case hi31 => (simp only [List.getElem?_toArray, List.getElem?_cons_zero, List.getElem?_cons_succ]; rfl)
          case hQ31 => exact fun _ _ _ h => h
          case hy31 => exact Or.inl ⟨by rfl, by (intro w hSw; go_simp)⟩
          simp only [Act.put, List.setIfInBounds_toArray, List.set_cons_zero, List.set_cons_succ]
          refine wpAnyH_take (i := 15) (oi := ?oi32) (v := .bool true) ?hi32 (by kernel_rfl) (by kernel_rfl) (by kernel_rfl) ?hQ32 ?hy32 (by assumption) ?rest32
          case hi32 => (simp only [List.getElem?_toArray, List.getElem?_cons_zero, List.getElem?_cons_succ]; rfl)
          case hQ32 => exact fun _ _ _ h => h
          case hy32 => exact Or.inl ⟨by rfl, by (intro w hSw; (try dsimp only at hSw); go_simp )⟩
          simp only [Act.put, List.setIfInBounds_toArray, List.set_cons_zero, List.set_cons_succ]
          refine wpAnyH_done (by kernel_rfl) ?_ _
          have hb := hHeld
          clear hHeld
          go_wp2
          go_ret2
          exact ⟨_, by rw [HE.out]; rfl, by rw [encB, HE.out, if_neg (by decide)]; exact Rd.nil _ _, hb⟩
        · have HLT := hide (show L[k].tag < L[k + 1].tag by omega)
          go_wp2
          refine wp_region_held_drew (S := (fun U => Below w.heap.size w U)) (by kernel_rfl) ?_ (fun hHeld => ?_)
          · exact hb.drew
          generalize wr.drew = V at hHeld ⊢
          refine wpAnyH_take (i := 0) (oi := ?oi33) (v := .int .i64 ((k + 1 : Nat) : Int)) ?hi33 (by kernel_rfl) (by kernel_rfl) (by kernel_rfl) ?hQ33 ?hy33 (by assumption) ?rest33
          case hi33 => (simp only [List.getElem?_toArray, List.getElem?_cons_zero]; rfl)
          case hQ33 => exact fun _ _ _ h => h
          case hy33 => exact Or.inl ⟨by rfl, by (intro w hSw; (try dsimp only at hSw); go_simp )⟩
          simp only [Act.put, List.setIfInBounds_toArray, List.set_cons_zero, List.set_cons_succ]
          refine wpAnyH_take (i := 1) (oi := ?oi34) (v := .bool true) ?hi34 (by kernel_rfl) (by kernel_rfl) (by kernel_rfl) ?hQ34 ?hy34 (by assumption) ?rest34
          case hi34 => (simp only [List.getElem?_toArray, List.getElem?_cons_zero, List.getElem?_cons_succ]; rfl)
          case hQ34 => exact fun _ _ _ h => h
          case hy34 => exact Or.inl ⟨by rfl, by (intro w hSw; go_simp)⟩
          simp only [Act.put, List.setIfInBounds_toArray, List.set_cons_zero, List.set_cons_succ]
          refine wpAnyH_take (i := 2) (oi := ?oi35) (v := .bool true) ?hi35 (by kernel_rfl) (by kernel_rfl) (by kernel_rfl) ?hQ35 ?hy35 (by assumption) ?rest35
          case hi35 => (simp only [List.getElem?_toArray, List.getElem?_cons_zero, List.getElem?_cons_succ]; rfl)
          case hQ35 => exact fun _ _ _ h => h
          case hy35 => exact Or.inl ⟨by rfl, by (intro w hSw; (try dsimp only at hSw); go_simp )⟩
          simp only [Act.put, List.setIfInBounds_toArray, List.set_cons_zero, List.set_cons_succ]
          refine wpAnyH_take (i := 3) (oi := ?oi36) (v := .slice (some ⟨b, off, none⟩) n cap) ?hi36 (by kernel_rfl) (by kernel_rfl) (by kernel_rfl) ?hQ36 ?hy36 (by assumption) ?rest36
          case hi36 => (simp only [List.getElem?_toArray, List.getElem?_cons_zero, List.getElem?_cons_succ]; rfl)
          case hQ36 => exact fun _ _ _ h => h
          case hy36 => exact Or.inl ⟨by rfl, by (intro w hSw; (try dsimp only at hSw); go_simp )⟩
          simp only [Act.put, List.setIfInBounds_toArray, List.set_cons_zero, List.set_cons_succ]
          refine wpAnyH_take (i := 4) (oi := ?oi37) (v := .int .i64 ((k + 1 : Nat) : Int)) ?hi37 (by kernel_rfl) (by kernel_rfl) (by kernel_rfl) ?hQ37 ?hy37 (by assumption) ?rest37
          case hi37 => (simp only [List.getElem?_toArray, List.getElem?_cons_zero, List.getElem?_cons_succ]; rfl)
          case hQ37 => exact fun _ _ _ h => h
          case hy37 => exact Or.inl ⟨by rfl, by (intro w hSw; (try dsimp only at hSw); go_simp )⟩
          simp only [Act.put, List.setIfInBounds_toArray, List.set_cons_zero, List.set_cons_succ]
          refine wpAnyH_take (i := 5) (oi := ?oi38) (v := .int .i64 (k : Nat)) ?hi38 (by kernel_rfl) (by kernel_rfl) (by kernel_rfl) ?hQ38 ?hy38 (by assumption) ?rest38
          case hi38 => (simp only [List.getElem?_toArray, List.getElem?_cons_zero, List.getElem?_cons_succ]; rfl)
          case hQ38 => exact fun _ _ _ h => h
          case hy38 => exact Or.inl ⟨by rfl, by (intro w hSw; go_simp; exact i64_in _ (by omega) (by omega))⟩
          simp only [Act.put, List.setIfInBounds_toArray, List.set_cons_zero, List.set_cons_succ]
          refine wpAnyH_take (i := 6) (oi := ?oi39) (v := .pointer (some ⟨b, off + k * 2, none⟩)) ?hi39 (by kernel_rfl) (by kernel_rfl) (by kernel_rfl) ?hQ39 ?hy39 (by assumption) ?rest39
          case hi39 => (simp only [List.getElem?_toArray, List.getElem?_cons_zero, List.getElem?_cons_succ]; rfl)
          case hQ39 => exact fun _ _ _ h => h
          case hy39 => exact Or.inl ⟨by rfl, fun U hU => ex_idx2 b off n cap k (by omega) rfl rfl U⟩
          simp only [Act.put, List.setIfInBounds_toArray, List.set_cons_zero, List.set_cons_succ]
          refine wpAnyH_take (i := 7) (oi := ?oi40) (v := .pointer (some ⟨b, off + k * 2, none⟩)) ?hi40 (by kernel_rfl) (by kernel_rfl) (by kernel_rfl) ?hQ40 ?hy40 (by assumption) ?rest40
          case hi40 => (simp only [List.getElem?_toArray, List.getElem?_cons_zero, List.getElem?_cons_succ]; rfl)
          case hQ40 => exact fun _ _ _ h => h
          case hy40 => exact Or.inl ⟨by rfl, by (intro w hSw; (try dsimp only at hSw); go_simp )⟩
          simp only [Act.put, List.setIfInBounds_toArray, List.set_cons_zero, List.set_cons_succ]
          refine wpAnyH_take (i := 8) (oi := ?oi41) (v := .int .u32 (L[k].tag : Nat)) ?hi41 (by kernel_rfl) (by kernel_rfl) (by kernel_rfl) ?hQ41 ?hy41 (by assumption) ?rest41
          case hi41 => (simp only [List.getElem?_toArray, List.getElem?_cons_zero, List.getElem?_cons_succ]; rfl)
          case hQ41 => exact fun _ _ _ h => h
          case hy41 => exact y_any b (off + k * 2) _ (fun U hU => (hU.cell (p := ⟨b, off + k * 2, none⟩) hbB).trans HCP.out) _ Tryd.underlying22 rfl rfl rfl
          simp only [Act.put, List.setIfInBounds_toArray, List.set_cons_zero, List.set_cons_succ]
          refine wpAnyH_take (i := 9) (oi := ?oi42) (v := .slice (some ⟨b, off, none⟩) n cap) ?hi42 (by kernel_rfl) (by kernel_rfl) (by kernel_rfl) ?hQ42 ?hy42 (by assumption) ?rest42
          case hi42 => (simp only [List.getElem?_toArray, List.getElem?_cons_zero, List.getElem?_cons_succ]; rfl)
          case hQ42 => exact fun _ _ _ h => h
          case hy42 => exact Or.inl ⟨by rfl, by (intro w hSw; (try dsimp only at hSw); go_simp )⟩
          simp only [Act.put, List.setIfInBounds_toArray, List.set_cons_zero, List.set_cons_succ]
          refine wpAnyH_take (i := 10) (oi := ?oi43) (v := .int .i64 ((k + 1 : Nat) : Int)) ?hi43 (by kernel_rfl) (by kernel_rfl) (by kernel_rfl) ?hQ43 ?hy43 (by assumption) ?rest43
          case hi43 => (simp only [List.getElem?_toArray, List.getElem?_cons_zero, List.getElem?_cons_succ]; rfl)
          case hQ43 => exact fun _ _ _ h => h
          case hy43 => exact Or.inl ⟨by rfl, by (intro w hSw; (try dsimp only at hSw); go_simp )⟩
          simp only [Act.put, List.setIfInBounds_toArray, List.set_cons_zero, List.set_cons_succ]
          refine wpAnyH_take (i := 11) (oi := ?oi44) (v := .pointer (some ⟨b, off + (k + 1) * 2, none⟩)) ?hi44 (by kernel_rfl) (by kernel_rfl) (by kernel_rfl) ?hQ44 ?hy44 (by assumption) ?rest44
          case hi44 => (simp only [List.getElem?_toArray, List.getElem?_cons_zero, List.getElem?_cons_succ]; rfl)
          case hQ44 => exact fun _ _ _ h => h
          case hy44 => exact Or.inl ⟨by rfl, fun U hU => ex_idx2 b off n cap (k + 1) (by omega) rfl rfl U⟩
          simp only [Act.put, List.setIfInBounds_toArray, List.set_cons_zero, List.set_cons_succ]
          refine wpAnyH_take (i := 12) (oi := ?oi45) (v := .pointer (some ⟨b, off + (k + 1) * 2, none⟩)) ?hi45 (by kernel_rfl) (by kernel_rfl) (by kernel_rfl) ?hQ45 ?hy45 (by assumption) ?rest45
          case hi45 => (simp only [List.getElem?_toArray, List.getElem?_cons_zero, List.getElem?_cons_succ]; rfl)
          case hQ45 => exact fun _ _ _ h => h
          case hy45 => exact Or.inl ⟨by rfl, by (intro w hSw; (try dsimp only at hSw); go_simp )⟩
          simp only [Act.put, List.setIfInBounds_toArray, List.set_cons_zero, List.set_cons_succ]
          refine wpAnyH_take (i := 13) (oi := ?oi46) (v := .int .u32 (L[k + 1].tag : Nat)) ?hi46 (by kernel_rfl) (by kernel_rfl) (by kernel_rfl) ?hQ46 ?hy46 (by assumption) ?rest46
          case hi46 => (simp only [List.getElem?_toArray, List.getElem?_cons_zero, List.getElem?_cons_succ]; rfl)
          case hQ46 => exact fun _ _ _ h => h
          case hy46 => exact y_any b (off + (k + 1) * 2) _ (fun U hU => (hU.cell (p := ⟨b, off + (k + 1) * 2, none⟩) hbB).trans HCT.out) _ Tryd.underlying22 rfl rfl rfl
          simp only [Act.put, List.setIfInBounds_toArray, List.set_cons_zero, List.set_cons_succ]
          refine wpAnyH_take (i := 14) (oi := ?oi47) (v := .bool false) ?hi47 (by kernel_rfl) (by kernel_rfl) (by kernel_rfl) ?hQ47 ?hy47 (by assumption) ?rest47
          case hi47 => (simp only [List.getElem?_toArray, List.getElem?_cons_zero, List.getElem?_cons_succ]; rfl)
          case hQ47 => exact fun _ _ _ h => h
          case hy47 => exact Or.inl ⟨by rfl, by (intro w hSw; go_simp)⟩
          simp only [Act.put, List.setIfInBounds_toArray, List.set_cons_zero, List.set_cons_succ]
          refine wpAnyH_take (i := 15) (oi := ?oi48) (v := .bool false) ?hi48 (by kernel_rfl) (by kernel_rfl) (by kernel_rfl) ?hQ48 ?hy48 (by assumption) ?rest48
          case hi48 => (simp only [List.getElem?_toArray, List.getElem?_cons_zero, List.getElem?_cons_succ]; rfl)
          case hQ48 => exact fun _ _ _ h => h
          case hy48 => exact Or.inl ⟨by rfl, by (intro w hSw; (try dsimp only at hSw); go_simp )⟩
          simp only [Act.put, List.setIfInBounds_toArray, List.set_cons_zero, List.set_cons_succ]
          refine wpAnyH_done (by kernel_rfl) ?_ _
          have HCU2 := hide ((hHeld.cell (p := ⟨b, off + (k + 1) * 2 + 1, none⟩) hbB).trans HCU.out)
          have hcu2 := HCU2.out
          have hb := hHeld
          generalize hgl : L[(k + 1)].b.length = ln at *
          generalize hgs : sizeL (L.take ((k + 1))) = sz at *
          clear hHeld hgl hgs
          go_wp2
          go_roundw
          case rel => exact ⟨(k + 1) + 1, hlt, by go_num, by rw [HSC.out]; go_num, (fun j h1 h2 => by
            by_cases hj : j = k
            · subst hj; exact HLT.out
            · exact HAS.out j h1 (by omega)), hb⟩
          case measure => simp [intOf]; omega
    · obtain rfl : k = n := by omega
      have hE0 : encE L = 0 := by
        unfold encE
        rw [if_neg (by rw [(asc_iff L).2 fun j h => HAS.out j h (by have := HN.out; omega)]; decide), if_neg (by have := HSZ.out; have := HN.out; omega)]
      have HE := hide hE0
      have htk : L.take k = L := List.take_of_length_le (by have := HN.out; omega)
      rw [htk]
      have HTK := hide htk
      have hs1 : sizeL L ≤ 100000 := HSZ.out
      have H1 := hide (fun (W : World) => rN_any _ (rd_new (e := 5) W _ _ pn_row pn_lt 4 rfl (by decide)) (by decide) ver (by omega) 4)
      have H2 := hide (fun (W : World) (v : Value) (Bq : Nat) hR => rN_any (B := Bq) (v := v) (l := [80, 78, 67, 69] ++ leN 4 ver) W hR (by rw [List.length_append, leN_len]; decide) k (by omega) 4)
      rw [show ∀ l V, layN l V 4 = l ++ leN 4 V from fun l V => if_neg (by omega)] at H1 H2
      have HOP := hide (show [80, 78, 67, 69] ++ leN 4 ver ++ leN 4 k = openL ver k from rfl)
      rw [HOP.out] at H2
      have HRT := hide (fun (W : World) (v : Value) (Bq : Nat) (l : List Nat) hR hB hn => rtail_any (B := Bq) (v := v) (l := l) W hR hB hn)
      clear hE0 htk
      generalize hgz : sizeL L = sz at *
      have HGZ := hide hgz
      clear hgz
      go_wp2_with (first | (go_at_call 32; (with_reducible refine (H1.out wr).mono ?_); rintro e W ⟨v1, rfl, ho1, hb1⟩; replace hb := below_bl rfl (hb.trans ((below_one _ _).mono hb.size)) hb1; have HO7 := hide ho1; clear ho1 hb1) | (go_at_call 32; (with_reducible refine (H2.out _ _ _ HO7.out.rd).mono ?_); rintro e W' ⟨v2, rfl, ho2, hb2⟩; have hsz7 := hb.size; replace hb := below_bl rfl hb hb2; have HO8 := hide (ho2.mono hsz7); clear ho2 hb2 hsz7))
      go_loopw [8, 9] (EnRel L ver k w.heap.size w) (fun _ iv _ => k - (intOf iv).toNat)
      case atStart => exact ⟨0, Nat.zero_le _, rfl, by simpa [secsL] using HO8.out, hb⟩
      case round =>
        clear hb HO8
        obtain ⟨i, hi, rfl, hown, hb⟩ := hrel
        have HO := hide hown
        clear hown
        by_cases hlt2 : i < k
        · obtain ⟨b, off, rfl⟩ := HAB i hlt2
          have HC : Hid (∀ j (hj : j < L.length), w.cell? ⟨b, off + j * 2, none⟩ = some (.int .u32 (L[j].tag : Nat)) ∧ ∃ u, w.cell? ⟨b, off + j * 2 + 1, none⟩ = some u ∧ Rd B w u L[j].b) := by
            obtain ⟨b', off', cap', e, _, _, _, HC⟩ := HSE.out.all (by have := HN.out; omega)
            injection e with e _ _
            injection e with e
            injection e with e1 e2 _
            subst e1 e2
            exact HC
          have hbB : b < w.heap.size := by
            obtain ⟨b', off', cap', e, _, _, hb', _⟩ := HSE.out.all (by have := HN.out; omega)
            injection e with e _ _
            injection e with e
            injection e with e1 e2 _
            subst e1
            omega
          have hkl : i < L.length := by have := HN.out; omega
          obtain ⟨c1, u, c2, c3⟩ := HC.out i hkl
          have HSC := hide (secs_succ L i hkl)
          have HSL := hide (secs_len (L.take i))
          have HSI := hide (size_le L i)
          have HBI := hide (HBL.out _ (List.getElem_mem hkl))
          have htg := HSE.out.tags _ (List.getElem_mem hkl)
          have HRN := hide (fun (W : World) => rN_any W (Rd.nil W.heap.size W) (by decide) L[i].tag (by omega) 4)
          rw [show ∀ l V, layN l V 4 = l ++ leN 4 V from fun l V => if_neg (by omega)] at HRN
          rw [List.nil_append] at HRN
          have HRR := hide (fun (W : World) (v : Value) (Bq : Nat) (hR : Rd Bq W v (leN 4 L[i].tag)) (hU : Rd B W u L[i].b) (hB : B ≤ W.heap.size) => rRun_any W hR hU hB (by rw [leN_len]; decide) (by have := HBI.out; omega))
          have HHD := hide (show layR (leN 4 L[i].tag) L[i].b = headL L[i] from rfl)
          rw [HHD.out] at HRR
          have HHL := hide (head_len L[i])
          have HCT := hide c1
          have HCU := hide c2
          have HCR := hide c3
          clear c1 c2 c3
          go_wp2
          refine wp_region_held_drew (S := (fun U => Below wr.heap.size wr U)) (by kernel_rfl) ?_ (fun hHeld => ?_)
          · exact (Below.refl _ wr).drew
          generalize wr.drew = V at hHeld ⊢
          have hbw := hHeld
          replace HO := hide (HO.out.bl hHeld)
          replace hb := below_bl rfl hb hHeld
          refine wpAnyH_take (i := 0) (oi := ?oi49) (v := .slice (some ⟨b, off, none⟩) k cap) ?hi49 (by kernel_rfl) (by kernel_rfl) (by kernel_rfl) ?hQ49 ?hy49 (by assumption) ?rest49
          case hi49 => (simp only [List.getElem?_toArray, List.getElem?_cons_zero]; rfl)
          case hQ49 => exact fun _ _ _ h => h
          case hy49 => exact Or.inl ⟨by rfl, by (intro w hSw; (try dsimp only at hSw); go_simp )⟩
          simp only [Act.put, List.setIfInBounds_toArray, List.set_cons_zero, List.set_cons_succ]
          refine wpAnyH_take (i := 1) (oi := ?oi50) (v := .int .i64 (i : Nat)) ?hi50 (by kernel_rfl) (by kernel_rfl) (by kernel_rfl) ?hQ50 ?hy50 (by assumption) ?rest50
          case hi50 => (simp only [List.getElem?_toArray, List.getElem?_cons_zero, List.getElem?_cons_succ]; rfl)
          case hQ50 => exact fun _ _ _ h => h
          case hy50 => exact Or.inl ⟨by rfl, by (intro w hSw; (try dsimp only at hSw); go_simp )⟩
          simp only [Act.put, List.setIfInBounds_toArray, List.set_cons_zero, List.set_cons_succ]
          refine wpAnyH_take (i := 2) (oi := ?oi51) (v := .pointer (some ⟨b, off + i * 2, none⟩)) ?hi51 (by kernel_rfl) (by kernel_rfl) (by kernel_rfl) ?hQ51 ?hy51 (by assumption) ?rest51
          case hi51 => (simp only [List.getElem?_toArray, List.getElem?_cons_zero, List.getElem?_cons_succ]; rfl)
          case hQ51 => exact fun _ _ _ h => h
          case hy51 => exact Or.inl ⟨by rfl, fun U hU => ex_idx2 b off k cap i (by omega) rfl rfl U⟩
          simp only [Act.put, List.setIfInBounds_toArray, List.set_cons_zero, List.set_cons_succ]
          refine wpAnyH_take (i := 3) (oi := ?oi52) (v := .pointer (some ⟨b, off + i * 2, none⟩)) ?hi52 (by kernel_rfl) (by kernel_rfl) (by kernel_rfl) ?hQ52 ?hy52 (by assumption) ?rest52
          case hi52 => (simp only [List.getElem?_toArray, List.getElem?_cons_zero, List.getElem?_cons_succ]; rfl)
          case hQ52 => exact fun _ _ _ h => h
          case hy52 => exact Or.inl ⟨by rfl, by (intro w hSw; (try dsimp only at hSw); go_simp )⟩
          simp only [Act.put, List.setIfInBounds_toArray, List.set_cons_zero, List.set_cons_succ]
          have HV1 := hide (hb.trans (Below.refl _ V))
          refine wpAnyH_more (S' := fun U => Below V.heap.size V U) (fun U h => hbw.trans (h.mono hbw.size)) _ _ _ _ ?_
          clear hHeld hbw
          have hHeld := Below.refl V.heap.size V
          refine wpAnyH_take (i := 4) (oi := ?oi53) (v := .int .u32 (L[i].tag : Nat)) ?hi53 (by kernel_rfl) (by kernel_rfl) (by kernel_rfl) ?hQ53 ?hy53 (by assumption) ?rest53
          case hi53 => (simp only [List.getElem?_toArray, List.getElem?_cons_zero, List.getElem?_cons_succ]; rfl)
          case hQ53 => exact fun _ _ _ h => h
          case hy53 => exact y_any b (off + i * 2) _ (fun U hU => ((hb.trans (hU.mono hb.size)).cell (p := ⟨b, off + i * 2, none⟩) hbB).trans HCT.out) _ Tryd.underlying22 rfl rfl rfl
          simp only [Act.put, List.setIfInBounds_toArray, List.set_cons_zero, List.set_cons_succ]
          refine wpAnyH_take (i := 5) (oi := ?oi54) (v := .int .u64 (L[i].tag : Nat)) ?hi54 (by kernel_rfl) (by kernel_rfl) (by kernel_rfl) ?hQ54 ?hy54 (by assumption) ?rest54
          case hi54 => (simp only [List.getElem?_toArray, List.getElem?_cons_zero, List.getElem?_cons_succ]; rfl)
          case hQ54 => exact fun _ _ _ h => h
          case hy54 => exact Or.inl ⟨by rfl, by (intro w hSw; go_simp; rw [IntKind.wrap_u64]; omega)⟩
          simp only [Act.put, List.setIfInBounds_toArray, List.set_cons_zero, List.set_cons_succ]
          refine wpAnyH_take (i := 7) (oi := ?oi55) (v := .slice (some ⟨b, off, none⟩) k cap) ?hi55 (by kernel_rfl) (by kernel_rfl) (by kernel_rfl) ?hQ55 ?hy55 (by assumption) ?rest55
          case hi55 => (simp only [List.getElem?_toArray, List.getElem?_cons_zero, List.getElem?_cons_succ]; rfl)
          case hQ55 => exact fun _ _ _ h => h
          case hy55 => exact Or.inl ⟨by rfl, by (intro w hSw; (try dsimp only at hSw); go_simp )⟩
          simp only [Act.put, List.setIfInBounds_toArray, List.set_cons_zero, List.set_cons_succ]
          refine wpAnyH_take (i := 8) (oi := ?oi56) (v := .int .i64 (i : Nat)) ?hi56 (by kernel_rfl) (by kernel_rfl) (by kernel_rfl) ?hQ56 ?hy56 (by assumption) ?rest56
          case hi56 => (simp only [List.getElem?_toArray, List.getElem?_cons_zero, List.getElem?_cons_succ]; rfl)
          case hQ56 => exact fun _ _ _ h => h
          case hy56 => exact Or.inl ⟨by rfl, by (intro w hSw; (try dsimp only at hSw); go_simp )⟩
          simp only [Act.put, List.setIfInBounds_toArray, List.set_cons_zero, List.set_cons_succ]
          refine wpAnyH_take (i := 9) (oi := ?oi57) (v := .pointer (some ⟨b, off + i * 2, none⟩)) ?hi57 (by kernel_rfl) (by kernel_rfl) (by kernel_rfl) ?hQ57 ?hy57 (by assumption) ?rest57
          case hi57 => (simp only [List.getElem?_toArray, List.getElem?_cons_zero, List.getElem?_cons_succ]; rfl)
          case hQ57 => exact fun _ _ _ h => h
          case hy57 => exact Or.inl ⟨by rfl, fun U hU => ex_idx2 b off k cap i (by omega) rfl rfl U⟩
          simp only [Act.put, List.setIfInBounds_toArray, List.set_cons_zero, List.set_cons_succ]
          refine wpAnyH_take (i := 10) (oi := ?oi58) (v := .pointer (some ⟨b, off + i * 2 + 1, none⟩)) ?hi58 (by kernel_rfl) (by kernel_rfl) (by kernel_rfl) ?hQ58 ?hy58 (by assumption) ?rest58
          case hi58 => (simp only [List.getElem?_toArray, List.getElem?_cons_zero, List.getElem?_cons_succ]; rfl)
          case hQ58 => exact fun _ _ _ h => h
          case hy58 => exact Or.inl ⟨by rfl, by (intro w hSw; go_simp)⟩
          simp only [Act.put, List.setIfInBounds_toArray, List.set_cons_zero, List.set_cons_succ]
          refine wpAnyH_take (i := 11) (oi := ?oi59) (v := u) ?hi59 (by kernel_rfl) (by kernel_rfl) (by kernel_rfl) ?hQ59 ?hy59 (by assumption) ?rest59
          case hi59 => (simp only [List.getElem?_toArray, List.getElem?_cons_zero, List.getElem?_cons_succ]; rfl)
          case hQ59 => exact fun _ _ _ h => h
          case hy59 => exact y_any b (off + i * 2 + 1) _ (fun U hU => ((hb.trans (hU.mono hb.size)).cell (p := ⟨b, off + i * 2 + 1, none⟩) hbB).trans HCU.out) _ Tryd.underlying26 rfl rfl rfl
          simp only [Act.put, List.setIfInBounds_toArray, List.set_cons_zero, List.set_cons_succ]
          refine wpAnyH_ready (rs := [6]) (by kernel_rfl) (by simp) ?_
          refine AllReadyH.cons (o := ?oi60) ?hi60 (fun K hK => ?_) AllReadyH.nil
          case hi60 => (simp only [List.getElem?_toArray, List.getElem?_cons_zero, List.getElem?_cons_succ]; rfl)
          rw [if_pos (by rfl)]
          go_simp
          refine (HRN.out _).mono ?_
          rintro e V2 ⟨v69, rfl, ho4, hbc⟩
          go_simp
          refine hK.out _ _ ?_ (fun hHeld => ?_)
          · exact hbc
          clear hK K
          clear hHeld
          replace hb := below_bl rfl hb hbc
          replace HO := hide (HO.out.bl hbc)
          have HO4 := hide ho4
          clear ho4
          refine wpAnyH_more (S' := fun U => Below V2.heap.size V2 U) (fun U h => hbc.trans (h.mono hbc.size)) _ _ _ _ ?_
          clear hbc
          have hHeld := Below.refl V2.heap.size V2
          refine wpAnyH_ready (rs := [12]) (by kernel_rfl) (by simp) ?_
          refine AllReadyH.cons (o := ?oi61) ?hi61 (fun K hK => ?_) AllReadyH.nil
          case hi61 => (simp only [List.getElem?_toArray, List.getElem?_cons_zero, List.getElem?_cons_succ]; rfl)
          rw [if_pos (by rfl)]
          go_simp
          refine (HRR.out _ _ _ HO4.out.rd (HCR.out.bel (hb.mono hB)) (Nat.le_trans hB hb.size)).mono ?_
          rintro e V3 ⟨v75, rfl, ho5, hbc⟩
          go_simp
          refine hK.out _ _ ?_ (fun hHeld => ?_)
          · exact hbc
          clear hK K
          clear hHeld
          replace hb := below_bl rfl hb hbc
          replace HO := hide (HO.out.bl hbc)
          have HO5 := hide ho5
          clear ho5
          refine wpAnyH_more (S' := fun U => Below V3.heap.size V3 U) (fun U h => hbc.trans (h.mono hbc.size)) _ _ _ _ ?_
          clear hbc
          have hHeld := Below.refl V3.heap.size V3
          refine wpAnyH_take (i := 13) (oi := ?oi62) (v := v75) ?hi62 (by kernel_rfl) (by kernel_rfl) (by kernel_rfl) ?hQ62 ?hy62 (by assumption) ?rest62
          case hi62 => (simp only [List.getElem?_toArray, List.getElem?_cons_zero, List.getElem?_cons_succ]; rfl)
          case hQ62 => exact fun _ _ _ h => h
          case hy62 => exact Or.inl ⟨by rfl, by (intro w hSw; (try dsimp only at hSw); go_simp )⟩
          simp only [Act.put, List.setIfInBounds_toArray, List.set_cons_zero, List.set_cons_succ]
          refine wpAnyH_done (by kernel_rfl) ?_ _
          clear hHeld
          go_wp2_with (first | (go_at_call 38; refine (HRT.out _ _ _ _ HO5.out.rd (Nat.le_refl _) (by rw [HHL.out]; have := HBI.out; have := HSZ.out; have := HGZ.out; omega)).mono ?_; rintro e W5 ⟨v5, rfl, ho5, hb5⟩; replace HO := hide (HO.out.bl hb5); replace hb := below_bl rfl hb hb5; have HO6 := hide ho5.rd; clear ho5 hb5) | ((with_reducible refine op_app i0 Tryd.underlying26 HI.out HZ.out HS.out HB.out HO.out HO6.out ?_ ?_ ?_ ?_ ?_); (have := HSL.out; have := HSI.out; have := HBI.out; have := HHL.out; have := HSZ.out; have := HGZ.out; have h4 : (tail4 (sumL (headL L[i]))).length = 4 := rfl; rw [List.length_append, List.length_append, open_len, h4]; omega); exact hb.size; exact rfl; exact rfl; intro W6 v6 hown hgr; replace hb := HO.out.grown hgr hb hb.size (Nat.le_refl _)))
          go_roundw
          case rel => exact ⟨i + 1, hlt2, by go_num, by rw [HSC.out, ← List.append_assoc]; exact hown, hb⟩
          case measure => simp [intOf]; omega
        · obtain rfl : i = k := by omega
          have HFL := hide (show openL ver i ++ secsL (L.take i) ++ tail4 (sumL (openL ver i ++ secsL (L.take i))) = fileL ver L by
            rw [HTK.out, fileL, HN.out]; rfl)
          have hln : (openL ver i ++ secsL (L.take i)).length ≤ 100000 := by
            have := secs_len L
            rw [HTK.out, List.length_append, open_len]
            have := HSZ.out
            have := HGZ.out
            omega
          have H5 := hide (HRT.out _ _ _ _ HO.out.rd (Nat.le_refl _) hln)
          rw [HFL.out] at H5
          clear hln
          go_wp2_with (go_at_call 38; refine (H5.out).mono ?_; rintro e W5 ⟨v5, rfl, ho5, hb5⟩; replace hb := below_bl rfl hb hb5)
          go_ret2
          exact ⟨_, by rw [HE.out]; rfl, by rw [encB, HE.out, if_pos rfl]; exact ho5.rd, hb⟩

end Go.Proofs.YtkahkkcbigifiaaDoor
