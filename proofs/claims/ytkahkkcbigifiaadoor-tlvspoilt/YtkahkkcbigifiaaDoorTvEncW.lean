/-
  Section by section: same; two laws: TlvEncodes, TlvDecodes.
-/
import Derived.Test.YtkahkkcbigifiaaDoorTvCon
import Derived.Test.YtkahkkcbigifiaaDoorTvSec
namespace Go.Proofs.YtkahkkcbigifiaaDoor
open Go.RowKit
set_option linter.unusedVariables false
set_option linter.unusedSimpArgs false

variable {P : Program} {ops : Array Oper} {rest : List Oper} {dst : Option Tmp} {ty t t2 : TypeId} {pos : String} {after : Array Edge} {a : Act} {w : World} {Q : Exit → Act → World → Prop} {K : Act → World → Prop} {x y z : Operand} {gd : Option (Nat × Bool)}
def SmRel (n N : Nat) (w0 : World) (iv : Value) (wr : World) : Prop := ∃ k : Nat, k ≤ n ∧ iv = .int .i64 (k : Nat) ∧ Below N w0 wr
set_option maxRecDepth 100000 in
set_option maxHeartbeats 4000000 in
theorem same_any {A B : Nat} {va vb : Value} {L : List Sct} (w : World) (ha : Secs A w va L) (hb : Secs B w vb L) (hA : A ≤ w.heap.size) (hB : B ≤ w.heap.size) :
    Calls Tryd.prog 19 #[va, vb] w fun e w' => e = .returned (.bool true) ∧ Below w.heap.size w w' := by
  have HA := hide ha
  have HB := hide hb
  obtain ⟨ad, ca, rfl, _, _⟩ := ha.form
  obtain ⟨bd, cb, rfl, _, _⟩ := hb.form
  obtain ⟨n, hn⟩ : ∃ n, L.length = n := ⟨_, rfl⟩
  have HN := hide hn
  rw [hn]
  clear ha hb hn
  have hbw : Below w.heap.size w w := Below.refl _ w
  go_enter Tryd.func19, Tryd.ntmps19
  go_wp2
  go_loopw [5] (SmRel n w.heap.size w) (fun iv _ => n - (intOf iv).toNat)
  case atStart => exact ⟨0, Nat.zero_le _, rfl, hbw⟩
  case round =>
    clear hbw
    obtain ⟨k, hk, rfl, hbw⟩ := hrel
    by_cases hlt : k < n
    · have hkl : k < L.length := by have := HN.out; omega
      obtain ⟨b1, o1, c1', hv, _, _, hb1, HC1⟩ := HA.out.all (by omega)
      injection hv with hv hv2 hv3
      subst hv hv3
      clear hv2
      obtain ⟨b2, o2, c2', hv, _, _, hb2, HC2⟩ := HB.out.all (by omega)
      injection hv with hv hv2 hv3
      subst hv hv3
      clear hv2
      obtain ⟨p1, u1, q1, r1⟩ := HC1.out k hkl
      obtain ⟨p2, u2, q2, r2⟩ := HC2.out k hkl
      have hb1' : b1 < w.heap.size := Nat.lt_of_lt_of_le hb1 hA
      have hb2' : b2 < w.heap.size := Nat.lt_of_lt_of_le hb2 hB
      have HP1 := hide p1
      have HP2 := hide p2
      have HQ1 := hide q1
      have HQ2 := hide q2
      have HR1 := hide (r1.mono hA)
      have HR2 := hide (r2.mono hB)
      clear p1 p2 q1 q2 r1 r2
      generalize L[k].tag = tg at *
      generalize L[k].b = lb at *
      go_wp2
      refine wp_region_held_drew (S := (fun U => Below w.heap.size w U)) (by kernel_rfl) ?_ (fun hHeld => ?_)
      · exact hbw.drew
      generalize wr.drew = V at hHeld ⊢
      refine wpAnyH_take (i := 0) (oi := ?oi1) (v := .slice (some ⟨b1, o1, none⟩) n ca) ?hi1 (by kernel_rfl) (by kernel_rfl) (by kernel_rfl) ?hQ1 ?hy1 (by assumption) ?rest1
      case hi1 => (simp only [List.getElem?_toArray, List.getElem?_cons_zero]; rfl)
      case hQ1 => exact fun _ _ _ h => h
      case hy1 => exact Or.inl ⟨by rfl, by (intro w hSw; (try dsimp only at hSw); go_simp )⟩
      simp only [Act.put, List.setIfInBounds_toArray, List.set_cons_zero, List.set_cons_succ]
      refine wpAnyH_take (i := 1) (oi := ?oi2) (v := .int .i64 (k : Nat)) ?hi2 (by kernel_rfl) (by kernel_rfl) (by kernel_rfl) ?hQ2 ?hy2 (by assumption) ?rest2
      case hi2 => (simp only [List.getElem?_toArray, List.getElem?_cons_zero, List.getElem?_cons_succ]; rfl)
      case hQ2 => exact fun _ _ _ h => h
      case hy2 => exact Or.inl ⟨by rfl, by (intro w hSw; (try dsimp only at hSw); go_simp )⟩
      simp only [Act.put, List.setIfInBounds_toArray, List.set_cons_zero, List.set_cons_succ]
      refine wpAnyH_take (i := 2) (oi := ?oi3) (v := .pointer (some ⟨b1, o1 + k * 2, none⟩)) ?hi3 (by kernel_rfl) (by kernel_rfl) (by kernel_rfl) ?hQ3 ?hy3 (by assumption) ?rest3
      case hi3 => (simp only [List.getElem?_toArray, List.getElem?_cons_zero, List.getElem?_cons_succ]; rfl)
      case hQ3 => exact fun _ _ _ h => h
      case hy3 => exact Or.inl ⟨by rfl, fun U hU => ex_idxT b1 o1 n ca k (by omega) rfl rfl U⟩
      simp only [Act.put, List.setIfInBounds_toArray, List.set_cons_zero, List.set_cons_succ]
      refine wpAnyH_take (i := 3) (oi := ?oi4) (v := .pointer (some ⟨b1, o1 + k * 2, none⟩)) ?hi4 (by kernel_rfl) (by kernel_rfl) (by kernel_rfl) ?hQ4 ?hy4 (by assumption) ?rest4
      case hi4 => (simp only [List.getElem?_toArray, List.getElem?_cons_zero, List.getElem?_cons_succ]; rfl)
      case hQ4 => exact fun _ _ _ h => h
      case hy4 => exact Or.inl ⟨by rfl, by (intro w hSw; go_simp)⟩
      simp only [Act.put, List.setIfInBounds_toArray, List.set_cons_zero, List.set_cons_succ]
      refine wpAnyH_take (i := 4) (oi := ?oi5) (v := .int .u32 (tg : Nat)) ?hi5 (by kernel_rfl) (by kernel_rfl) (by kernel_rfl) ?hQ5 ?hy5 (by assumption) ?rest5
      case hi5 => (simp only [List.getElem?_toArray, List.getElem?_cons_zero, List.getElem?_cons_succ]; rfl)
      case hQ5 => exact fun _ _ _ h => h
      case hy5 => exact y_any b1 (o1 + k * 2) _ (fun U hU => (hU.cell (p := ⟨b1, o1 + k * 2, none⟩) hb1').trans HP1.out) _ Tryd.underlying22 rfl rfl rfl
      simp only [Act.put, List.setIfInBounds_toArray, List.set_cons_zero, List.set_cons_succ]
      refine wpAnyH_take (i := 5) (oi := ?oi6) (v := .slice (some ⟨b2, o2, none⟩) n cb) ?hi6 (by kernel_rfl) (by kernel_rfl) (by kernel_rfl) ?hQ6 ?hy6 (by assumption) ?rest6
      case hi6 => (simp only [List.getElem?_toArray, List.getElem?_cons_zero, List.getElem?_cons_succ]; rfl)
      case hQ6 => exact fun _ _ _ h => h
      case hy6 => exact Or.inl ⟨by rfl, by (intro w hSw; (try dsimp only at hSw); go_simp )⟩
      simp only [Act.put, List.setIfInBounds_toArray, List.set_cons_zero, List.set_cons_succ]
      refine wpAnyH_take (i := 6) (oi := ?oi7) (v := .int .i64 (k : Nat)) ?hi7 (by kernel_rfl) (by kernel_rfl) (by kernel_rfl) ?hQ7 ?hy7 (by assumption) ?rest7
      case hi7 => (simp only [List.getElem?_toArray, List.getElem?_cons_zero, List.getElem?_cons_succ]; rfl)
      case hQ7 => exact fun _ _ _ h => h
      case hy7 => exact Or.inl ⟨by rfl, by (intro w hSw; (try dsimp only at hSw); go_simp )⟩
      simp only [Act.put, List.setIfInBounds_toArray, List.set_cons_zero, List.set_cons_succ]
      refine wpAnyH_take (i := 7) (oi := ?oi8) (v := .pointer (some ⟨b2, o2 + k * 2, none⟩)) ?hi8 (by kernel_rfl) (by kernel_rfl) (by kernel_rfl) ?hQ8 ?hy8 (by assumption) ?rest8
      case hi8 => (simp only [List.getElem?_toArray, List.getElem?_cons_zero, List.getElem?_cons_succ]; rfl)
      case hQ8 => exact fun _ _ _ h => h
      case hy8 => exact Or.inl ⟨by rfl, fun U hU => ex_idx2 b2 o2 n cb k (by omega) rfl rfl U⟩
      simp only [Act.put, List.setIfInBounds_toArray, List.set_cons_zero, List.set_cons_succ]
      refine wpAnyH_take (i := 8) (oi := ?oi9) (v := .pointer (some ⟨b2, o2 + k * 2, none⟩)) ?hi9 (by kernel_rfl) (by kernel_rfl) (by kernel_rfl) ?hQ9 ?hy9 (by assumption) ?rest9
      case hi9 => (simp only [List.getElem?_toArray, List.getElem?_cons_zero, List.getElem?_cons_succ]; rfl)
      case hQ9 => exact fun _ _ _ h => h
      case hy9 => exact Or.inl ⟨by rfl, by (intro w hSw; go_simp)⟩
      simp only [Act.put, List.setIfInBounds_toArray, List.set_cons_zero, List.set_cons_succ]
      refine wpAnyH_take (i := 9) (oi := ?oi10) (v := .int .u32 (tg : Nat)) ?hi10 (by kernel_rfl) (by kernel_rfl) (by kernel_rfl) ?hQ10 ?hy10 (by assumption) ?rest10
      case hi10 => (simp only [List.getElem?_toArray, List.getElem?_cons_zero, List.getElem?_cons_succ]; rfl)
      case hQ10 => exact fun _ _ _ h => h
      case hy10 => exact y_any b2 (o2 + k * 2) _ (fun U hU => (hU.cell (p := ⟨b2, o2 + k * 2, none⟩) hb2').trans HP2.out) _ Tryd.underlying22 rfl rfl rfl
      simp only [Act.put, List.setIfInBounds_toArray, List.set_cons_zero, List.set_cons_succ]
      refine wpAnyH_take (i := 10) (oi := ?oi11) (v := .bool false) ?hi11 (by kernel_rfl) (by kernel_rfl) (by kernel_rfl) ?hQ11 ?hy11 (by assumption) ?rest11
      case hi11 => (simp only [List.getElem?_toArray, List.getElem?_cons_zero, List.getElem?_cons_succ]; rfl)
      case hQ11 => exact fun _ _ _ h => h
      case hy11 => exact Or.inl ⟨by rfl, by (intro w hSw; go_simp)⟩
      simp only [Act.put, List.setIfInBounds_toArray, List.set_cons_zero, List.set_cons_succ]
      refine wpAnyH_take (i := 11) (oi := ?oi12) (v := .bool false) ?hi12 (by kernel_rfl) (by kernel_rfl) (by kernel_rfl) ?hQ12 ?hy12 (by assumption) ?rest12
      case hi12 => (simp only [List.getElem?_toArray, List.getElem?_cons_zero, List.getElem?_cons_succ]; rfl)
      case hQ12 => exact fun _ _ _ h => h
      case hy12 => exact Or.inl ⟨by rfl, by (intro w hSw; (try dsimp only at hSw); go_simp )⟩
      simp only [Act.put, List.setIfInBounds_toArray, List.set_cons_zero, List.set_cons_succ]
      refine wpAnyH_take (i := 12) (oi := ?oi13) (v := .slice (some ⟨b1, o1, none⟩) n ca) ?hi13 (by kernel_rfl) (by kernel_rfl) (by kernel_rfl) ?hQ13 ?hy13 (by assumption) ?rest13
      case hi13 => (simp only [List.getElem?_toArray, List.getElem?_cons_zero, List.getElem?_cons_succ]; rfl)
      case hQ13 => exact fun _ _ _ h => h
      case hy13 => exact Or.inl ⟨by rfl, by (intro w hSw; (try dsimp only at hSw); go_simp )⟩
      simp only [Act.put, List.setIfInBounds_toArray, List.set_cons_zero, List.set_cons_succ]
      refine wpAnyH_take (i := 13) (oi := ?oi14) (v := .int .i64 (k : Nat)) ?hi14 (by kernel_rfl) (by kernel_rfl) (by kernel_rfl) ?hQ14 ?hy14 (by assumption) ?rest14
      case hi14 => (simp only [List.getElem?_toArray, List.getElem?_cons_zero, List.getElem?_cons_succ]; rfl)
      case hQ14 => exact fun _ _ _ h => h
      case hy14 => exact Or.inl ⟨by rfl, by (intro w hSw; (try dsimp only at hSw); go_simp )⟩
      simp only [Act.put, List.setIfInBounds_toArray, List.set_cons_zero, List.set_cons_succ]
      refine wpAnyH_take (i := 14) (oi := ?oi15) (v := .pointer (some ⟨b1, o1 + k * 2, none⟩)) ?hi15 (by kernel_rfl) (by kernel_rfl) (by kernel_rfl) ?hQ15 ?hy15 (by assumption) ?rest15
      case hi15 => (simp only [List.getElem?_toArray, List.getElem?_cons_zero, List.getElem?_cons_succ]; rfl)
      case hQ15 => exact fun _ _ _ h => h
      case hy15 => exact Or.inl ⟨by rfl, fun U hU => ex_idxT b1 o1 n ca k (by omega) rfl rfl U⟩
      simp only [Act.put, List.setIfInBounds_toArray, List.set_cons_zero, List.set_cons_succ]
      refine wpAnyH_take (i := 15) (oi := ?oi16) (v := .pointer (some ⟨b1, o1 + k * 2 + 1, none⟩)) ?hi16 (by kernel_rfl) (by kernel_rfl) (by kernel_rfl) ?hQ16 ?hy16 (by assumption) ?rest16
      case hi16 => (simp only [List.getElem?_toArray, List.getElem?_cons_zero, List.getElem?_cons_succ]; rfl)
      case hQ16 => exact fun _ _ _ h => h
      case hy16 => exact Or.inl ⟨by rfl, by (intro w hSw; go_simp)⟩
      simp only [Act.put, List.setIfInBounds_toArray, List.set_cons_zero, List.set_cons_succ]
      refine wpAnyH_take (i := 16) (oi := ?oi17) (v := u1) ?hi17 (by kernel_rfl) (by kernel_rfl) (by kernel_rfl) ?hQ17 ?hy17 (by assumption) ?rest17
      case hi17 => (simp only [List.getElem?_toArray, List.getElem?_cons_zero, List.getElem?_cons_succ]; rfl)
      case hQ17 => exact fun _ _ _ h => h
      case hy17 => exact y_any b1 (o1 + k * 2 + 1) _ (fun U hU => (hU.cell (p := ⟨b1, o1 + k * 2 + 1, none⟩) hb1').trans HQ1.out) _ Tryd.underlying26 rfl rfl rfl
      simp only [Act.put, List.setIfInBounds_toArray, List.set_cons_zero, List.set_cons_succ]
      refine wpAnyH_take (i := 17) (oi := ?oi18) (v := .string (strB lb)) ?hi18 (by kernel_rfl) (by kernel_rfl) (by kernel_rfl) ?hQ18 ?hy18 (by assumption) ?rest18
      case hi18 => (simp only [List.getElem?_toArray, List.getElem?_cons_zero, List.getElem?_cons_succ]; rfl)
      case hQ18 => exact fun _ _ _ h => h
      case hy18 => exact Or.inl ⟨by rfl, fun U hU => ex_str (HR1.out.bel hU) 5 Tryd.underlying26 Tryd.underlying5 und_str rfl⟩
      simp only [Act.put, List.setIfInBounds_toArray, List.set_cons_zero, List.set_cons_succ]
      refine wpAnyH_take (i := 18) (oi := ?oi19) (v := .slice (some ⟨b2, o2, none⟩) n cb) ?hi19 (by kernel_rfl) (by kernel_rfl) (by kernel_rfl) ?hQ19 ?hy19 (by assumption) ?rest19
      case hi19 => (simp only [List.getElem?_toArray, List.getElem?_cons_zero, List.getElem?_cons_succ]; rfl)
      case hQ19 => exact fun _ _ _ h => h
      case hy19 => exact Or.inl ⟨by rfl, by (intro w hSw; (try dsimp only at hSw); go_simp )⟩
      simp only [Act.put, List.setIfInBounds_toArray, List.set_cons_zero, List.set_cons_succ]
      refine wpAnyH_take (i := 19) (oi := ?oi20) (v := .int .i64 (k : Nat)) ?hi20 (by kernel_rfl) (by kernel_rfl) (by kernel_rfl) ?hQ20 ?hy20 (by assumption) ?rest20
      case hi20 => (simp only [List.getElem?_toArray, List.getElem?_cons_zero, List.getElem?_cons_succ]; rfl)
      case hQ20 => exact fun _ _ _ h => h
      case hy20 => exact Or.inl ⟨by rfl, by (intro w hSw; (try dsimp only at hSw); go_simp )⟩
      simp only [Act.put, List.setIfInBounds_toArray, List.set_cons_zero, List.set_cons_succ]
      refine wpAnyH_take (i := 20) (oi := ?oi21) (v := .pointer (some ⟨b2, o2 + k * 2, none⟩)) ?hi21 (by kernel_rfl) (by kernel_rfl) (by kernel_rfl) ?hQ21 ?hy21 (by assumption) ?rest21
      case hi21 => (simp only [List.getElem?_toArray, List.getElem?_cons_zero, List.getElem?_cons_succ]; rfl)
      case hQ21 => exact fun _ _ _ h => h
      case hy21 => exact Or.inl ⟨by rfl, fun U hU => ex_idx2 b2 o2 n cb k (by omega) rfl rfl U⟩
      simp only [Act.put, List.setIfInBounds_toArray, List.set_cons_zero, List.set_cons_succ]
      refine wpAnyH_take (i := 21) (oi := ?oi22) (v := .pointer (some ⟨b2, o2 + k * 2 + 1, none⟩)) ?hi22 (by kernel_rfl) (by kernel_rfl) (by kernel_rfl) ?hQ22 ?hy22 (by assumption) ?rest22
      case hi22 => (simp only [List.getElem?_toArray, List.getElem?_cons_zero, List.getElem?_cons_succ]; rfl)
      case hQ22 => exact fun _ _ _ h => h
      case hy22 => exact Or.inl ⟨by rfl, by (intro w hSw; go_simp)⟩
      simp only [Act.put, List.setIfInBounds_toArray, List.set_cons_zero, List.set_cons_succ]
      refine wpAnyH_take (i := 22) (oi := ?oi23) (v := u2) ?hi23 (by kernel_rfl) (by kernel_rfl) (by kernel_rfl) ?hQ23 ?hy23 (by assumption) ?rest23
      case hi23 => (simp only [List.getElem?_toArray, List.getElem?_cons_zero, List.getElem?_cons_succ]; rfl)
      case hQ23 => exact fun _ _ _ h => h
      case hy23 => exact y_any b2 (o2 + k * 2 + 1) _ (fun U hU => (hU.cell (p := ⟨b2, o2 + k * 2 + 1, none⟩) hb2').trans HQ2.out) _ Tryd.underlying26 rfl rfl rfl
      simp only [Act.put, List.setIfInBounds_toArray, List.set_cons_zero, List.set_cons_succ]
      refine wpAnyH_take (i := 23) (oi := ?oi24) (v := .string (strB lb)) ?hi24 (by kernel_rfl) (by kernel_rfl) (by kernel_rfl) ?hQ24 ?hy24 (by assumption) ?rest24
      case hi24 => (simp only [List.getElem?_toArray, List.getElem?_cons_zero, List.getElem?_cons_succ]; rfl)
      case hQ24 => exact fun _ _ _ h => h
      case hy24 => exact Or.inl ⟨by rfl, fun U hU => ex_str (HR2.out.bel hU) 5 Tryd.underlying26 Tryd.underlying5 und_str rfl⟩
      simp only [Act.put, List.setIfInBounds_toArray, List.set_cons_zero, List.set_cons_succ]
      refine wpAnyH_take (i := 24) (oi := ?oi25) (v := .bool false) ?hi25 (by kernel_rfl) (by kernel_rfl) (by kernel_rfl) ?hQ25 ?hy25 (by assumption) ?rest25
      case hi25 => (simp only [List.getElem?_toArray, List.getElem?_cons_zero, List.getElem?_cons_succ]; rfl)
      case hQ25 => exact fun _ _ _ h => h
      case hy25 => exact Or.inl ⟨by rfl, fun U hU => (ex_sneq (strB lb) (strB lb) rfl rfl U).trans (by rw [beq_self_eq_true]; rfl)⟩
      simp only [Act.put, List.setIfInBounds_toArray, List.set_cons_zero, List.set_cons_succ]
      refine wpAnyH_take (i := 25) (oi := ?oi26) (v := .bool false) ?hi26 (by kernel_rfl) (by kernel_rfl) (by kernel_rfl) ?hQ26 ?hy26 (by assumption) ?rest26
      case hi26 => (simp only [List.getElem?_toArray, List.getElem?_cons_zero, List.getElem?_cons_succ]; rfl)
      case hQ26 => exact fun _ _ _ h => h
      case hy26 => exact Or.inl ⟨by rfl, by (intro w hSw; (try dsimp only at hSw); go_simp )⟩
      simp only [Act.put, List.setIfInBounds_toArray, List.set_cons_zero, List.set_cons_succ]
      refine wpAnyH_done (by kernel_rfl) ?_ _
      have hbw := hHeld
      clear hHeld
      go_wp2
      go_roundw
      case rel => exact ⟨k + 1, hlt, by go_num, hbw⟩
      case measure => simp [intOf]; omega
    · obtain rfl : k = n := by omega
      go_wp2
      go_ret
      exact ⟨rfl, hbw⟩
set_option maxRecDepth 100000 in
set_option maxHeartbeats 8000000 in
theorem encodes_walk {Gd : World → Prop} (C : Con Gd) (ver tag : Nat) (hv : ver < 4294967296) (ht : tag < 4294967296) {v : Value} {L : List Sct} (w : World) (h : Secs w.heap.size w v L) (htot : totL (L.take 5000) ≤ 4611686018427387904) (hH : HandleAt w) (hG : Gd w) :
    Calls Tryd.prog 3 #[.int .u32 (ver : Nat), v, .int .u32 (tag : Nat)] w fun e w' => e = .returned (.bool true) ∧ Below w.heap.size w w' := by
  have HL := hide (long_any w h htot)
  have HS := hide (fun W hg => tsure_any C W hg)
  have HG := hide (fun W hb => C.bel w W hG hb)
  obtain ⟨ad, cap, rfl, hcap, hmax⟩ := h.form
  cases hlg : longB L with
  | true =>
    rw [hlg] at HL
    clear h hG hH hlg
    go_enter Tryd.func3, Tryd.ntmps3
    go_wp2_with (first | (go_at_call 9; (with_reducible refine (HL.out).mono ?_); rintro e w1 ⟨rfl, rfl⟩) | (go_at_call 10; (with_reducible refine (HS.out _ (HG.out _ (Below.refl _ _))).mono ?_); rintro e w2 ⟨rfl, hb⟩))
    go_ret
    exact ⟨rfl, hb⟩
  | false =>
    rw [hlg] at HL
    obtain ⟨h200, h20, hsz⟩ := not_long hlg
    have HH := hide (fun W (hb : Below w.heap.size w W) => hH.below hb)
    have HSE := hide (fun W (hb : Below w.heap.size w W) => h.bel hb)
    have HGV := hide (fun W hR hB => give_any (B := w.heap.size) (v := .slice ad L.length cap) (L := L) W hR hB (by omega))
    have HE := hide (fun (W : World) (B : Nat) (v : Value) (hg : Gd W) hR hB => C.enc W B v L ver hg hR hB hv (by omega) (by omega))
    have HF := hide (fun (W : World) (B : Nat) (v : Value) (hg : Gd W) hR hB => C.find W B v L tag hg hR hB ht (by omega))
    have HRE := hide (fun W hR hB => rencode_any (B := w.heap.size) (v := .slice ad L.length cap) (L := L) W hR hB ver hv (by omega) (by omega))
    have HRF := hide (fun W hR => rfind_any (B := w.heap.size) (v := .slice ad L.length cap) (L := L) W hR tag ht)
    have HN1 := hide (fun W hg => nums_any (encE L) W hg)
    have HN2 := hide (fun W hg => nums_any (findE tag L) W hg)
    have hb : Below w.heap.size w w := Below.refl _ w
    have hlE := fun (l : List Nat) => beq_self_eq_true ((strB l).toList)
    generalize encB ver L = p1 at *
    generalize findB tag L = p2 at *
    generalize encE L = e1 at *
    generalize findE tag L = e2 at *
    generalize hev1 : errS e1 = ev1 at *
    generalize hev2 : errS e2 = ev2 at *
    clear h hG hH hlg hev1 hev2
    go_enter Tryd.func3, Tryd.ntmps3
    go_wp2_with (first | (go_at_call 9; (with_reducible refine (HL.out).mono ?_); rintro e w1 ⟨rfl, rfl⟩) | (go_at_call 12; (with_reducible refine (HGV.out _ (HSE.out _ hb) hb.size).mono ?_); rintro e W ⟨vg, rfl, hog, hb2⟩; replace HB1 := hide ((HB1.out.bel hb2).top); replace HB2 := hide ((HB2.out.bel hb2).top); have hsg := hog.secs (Nat.le_trans hb.size hb2.size); replace hb := below_bl rfl hb hb2; have HGS := hide hsg; clear hog hb2 hsg) | (go_at_call 12; (with_reducible refine (HGV.out _ (HSE.out _ hb) hb.size).mono ?_); rintro e W ⟨vg, rfl, hog, hb2⟩; have hsg := hog.secs (Nat.le_trans hb.size hb2.size); replace hb := below_bl rfl hb hb2; have HGS := hide hsg; clear hog hb2 hsg) | (go_at_call 11; (with_reducible refine (HE.out _ _ _ (HG.out _ hb) HGS.out (Nat.le_refl _)).mono ?_); rintro e W ⟨vb1, rfl, hr, hb2⟩; have HB1 := hide hr; have HZ1 := hide (Nat.le_refl W.heap.size); replace hb := below_bl rfl hb hb2; clear hr hb2) | (go_at_call 13; (with_reducible refine (HRE.out _ (HSE.out _ hb) hb.size).mono ?_); rintro e W ⟨vb2, rfl, hr, hb2⟩; replace HB1 := hide ((HB1.out.bel hb2).top); have HB2 := hide hr; replace hb := below_bl rfl hb hb2; clear hr hb2) | (go_at_call 14; (with_reducible refine (HF.out _ _ _ (HG.out _ hb) HGS.out (Nat.le_refl _)).mono ?_); rintro e W ⟨vf1, rfl, hr, hb2⟩; replace HB1 := hide ((HB1.out.bel hb2).top); replace HB2 := hide ((HB2.out.bel hb2).top); have HF1 := hide hr; replace hb := below_bl rfl hb hb2; clear hr hb2) | (go_at_call 15; (with_reducible refine (HRF.out _ (HSE.out _ hb)).mono ?_); rintro e W ⟨vf2, rfl, hr, rfl⟩; have HF2 := hide hr; clear hr) | ((with_reducible refine g_str HB1.out 5 Tryd.underlying26 Tryd.underlying5 und_str ?_ ?_ ?_); exact rfl; exact rfl) | ((with_reducible refine g_str HB2.out 5 Tryd.underlying26 Tryd.underlying5 und_str ?_ ?_ ?_); exact rfl; exact rfl) | ((with_reducible refine g_str HF1.out 5 Tryd.underlying26 Tryd.underlying5 und_str ?_ ?_ ?_); exact rfl; exact rfl) | ((with_reducible refine g_str HF2.out 5 Tryd.underlying26 Tryd.underlying5 und_str ?_ ?_ ?_); exact rfl; exact rfl) | (go_at_call 16; (with_reducible refine (HN1.out _ (HH.out _ hb)).mono ?_); rintro e W ⟨rfl, hb2⟩; replace HF1 := hide ((HF1.out.bel hb2).top); replace HF2 := hide (HF2.out.top.bel hb2); replace hb := below_bl rfl hb hb2; clear hb2) | (go_at_call 16; (with_reducible refine (HN2.out _ (HH.out _ hb)).mono ?_); rintro e W ⟨rfl, hb2⟩; replace hb := below_bl rfl hb hb2; clear hb2) | (go_at_call 10; (with_reducible refine (HS.out _ (HG.out _ hb)).mono ?_); rintro e W ⟨rfl, hb2⟩; replace hb := below_bl rfl hb hb2; clear hb2))
    go_ret
    exact ⟨rfl, hb⟩
end Go.Proofs.YtkahkkcbigifiaaDoor
