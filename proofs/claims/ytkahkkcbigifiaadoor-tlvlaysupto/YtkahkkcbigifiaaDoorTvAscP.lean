/-
  ascend, fileSize: tlv's own.
-/
import Derived.Test.YtkahkkcbigifiaaDoorTvLay
import Derived.Test.YtkahkkcbigifiaaDoorTvConS
namespace Go.Proofs.YtkahkkcbigifiaaDoor
open Go.RowKit
set_option linter.unusedVariables false
set_option linter.unusedSimpArgs false

variable {P : Program} {ops : Array Oper} {rest : List Oper} {dst : Option Tmp} {ty t t2 : TypeId} {pos : String} {after : Array Edge} {a : Act} {w : World} {Q : Exit → Act → World → Prop} {K : Act → World → Prop} {x y z : Operand} {gd : Option (Nat × Bool)}
def AscRel (L : List Sct) (N : Nat) (w0 : World) (iv : Value) (wr : World) : Prop := ∃ k : Nat, k ≤ L.length ∧ iv = .int .i64 ((k + 1 : Nat) : Int) ∧ (∀ j (h : j + 1 < L.length), j < k → L[j].tag < L[j + 1].tag) ∧ Below N w0 wr
set_option maxRecDepth 100000 in
set_option maxHeartbeats 4000000 in
theorem ascend_any {B : Nat} {v : Value} {L : List Sct} (w : World) (h : Secs B w v L) (hB : B ≤ w.heap.size) :
    Calls Tryd.prog 33 #[v] w fun e w' => e = .returned (.bool (ascF none L)) ∧ Below w.heap.size w w' := by
  obtain ⟨res, hres⟩ : ∃ r, ascF none L = r := ⟨_, rfl⟩
  have HRS := hide hres
  obtain ⟨n, hn⟩ : ∃ n, L.length = n := ⟨_, rfl⟩
  have HN := hide hn
  have HSE := hide h
  obtain ⟨ad, cap, rfl, hcap, hmax⟩ := h.form
  rw [hres]
  rw [hn] at hcap ⊢
  have hb : Below w.heap.size w w := Below.refl _ w
  clear h hn hres
  go_enter Tryd.func33, Tryd.ntmps33
  go_wp2
  go_loopw [3] (AscRel L w.heap.size w) (fun iv _ => n + 1 - (intOf iv).toNat)
  case atStart => exact ⟨0, Nat.zero_le _, rfl, fun j h1 h2 => absurd h2 (by omega), hb⟩
  case round =>
    clear hb
    obtain ⟨k, hk, rfl, hasc, hb⟩ := hrel
    have HAS := hide hasc
    have hkn : k ≤ n := by have := HN.out; omega
    clear hasc hk
    by_cases hlt : k + 1 < n
    · obtain ⟨b, off, cap', hv, _, _, hbB, HC⟩ := HSE.out.all (by have := HN.out; omega)
      injection hv with hv hv2 hv3
      subst hv hv3
      clear hv2
      have hkp : k < L.length := by have := HN.out; omega
      have hkl : k + 1 < L.length := by have := HN.out; omega
      have HCP := hide ((hb.cell (p := ⟨b, off + k * 2, none⟩) (Nat.lt_of_lt_of_le hbB hB)).trans (HC.out k hkp).1)
      have HCT := hide ((hb.cell (p := ⟨b, off + (k + 1) * 2, none⟩) (Nat.lt_of_lt_of_le hbB hB)).trans (HC.out (k + 1) hkl).1)
      have hbw : b < wr.heap.size := Nat.lt_of_lt_of_le hbB (Nat.le_trans hB hb.size)
      by_cases hgt : L[k + 1].tag ≤ L[k].tag
      · have HE := hide (show res = false by
          rw [← HRS.out]
          refine Bool.eq_false_iff.2 fun ht => ?_
          have := (asc_iff L).1 ht k hkl
          omega)
        go_wp2
        refine wp_region_held_drew (S := (fun U => Below wr.heap.size wr U)) (by kernel_rfl) ?_ (fun hHeld => ?_)
        · exact (Below.refl _ wr).drew
        generalize wr.drew = V at hHeld ⊢
        refine wpAnyH_take (i := 0) (oi := ?oi1) (v := .slice (some ⟨b, off, none⟩) n cap) ?hi1 (by kernel_rfl) (by kernel_rfl) (by kernel_rfl) ?hQ1 ?hy1 (by assumption) ?rest1
        case hi1 => (simp only [List.getElem?_toArray, List.getElem?_cons_zero]; rfl)
        case hQ1 => exact fun _ _ _ h => h
        case hy1 => exact Or.inl ⟨by rfl, by (intro w hSw; (try dsimp only at hSw); go_simp )⟩
        simp only [Act.put, List.setIfInBounds_toArray, List.set_cons_zero, List.set_cons_succ]
        refine wpAnyH_take (i := 1) (oi := ?oi2) (v := .int .i64 ((k + 1 : Nat) : Int)) ?hi2 (by kernel_rfl) (by kernel_rfl) (by kernel_rfl) ?hQ2 ?hy2 (by assumption) ?rest2
        case hi2 => (simp only [List.getElem?_toArray, List.getElem?_cons_zero, List.getElem?_cons_succ]; rfl)
        case hQ2 => exact fun _ _ _ h => h
        case hy2 => exact Or.inl ⟨by rfl, by (intro w hSw; (try dsimp only at hSw); go_simp )⟩
        simp only [Act.put, List.setIfInBounds_toArray, List.set_cons_zero, List.set_cons_succ]
        refine wpAnyH_take (i := 2) (oi := ?oi3) (v := .pointer (some ⟨b, off + (k + 1) * 2, none⟩)) ?hi3 (by kernel_rfl) (by kernel_rfl) (by kernel_rfl) ?hQ3 ?hy3 (by assumption) ?rest3
        case hi3 => (simp only [List.getElem?_toArray, List.getElem?_cons_zero, List.getElem?_cons_succ]; rfl)
        case hQ3 => exact fun _ _ _ h => h
        case hy3 => exact Or.inl ⟨by rfl, fun U hU => ex_idxT b off n cap (k + 1) (by omega) rfl rfl U⟩
        simp only [Act.put, List.setIfInBounds_toArray, List.set_cons_zero, List.set_cons_succ]
        refine wpAnyH_take (i := 3) (oi := ?oi4) (v := .pointer (some ⟨b, off + (k + 1) * 2, none⟩)) ?hi4 (by kernel_rfl) (by kernel_rfl) (by kernel_rfl) ?hQ4 ?hy4 (by assumption) ?rest4
        case hi4 => (simp only [List.getElem?_toArray, List.getElem?_cons_zero, List.getElem?_cons_succ]; rfl)
        case hQ4 => exact fun _ _ _ h => h
        case hy4 => exact Or.inl ⟨by rfl, by (intro w hSw; (try dsimp only at hSw); go_simp )⟩
        simp only [Act.put, List.setIfInBounds_toArray, List.set_cons_zero, List.set_cons_succ]
        refine wpAnyH_take (i := 4) (oi := ?oi5) (v := .int .u32 (L[k + 1].tag : Nat)) ?hi5 (by kernel_rfl) (by kernel_rfl) (by kernel_rfl) ?hQ5 ?hy5 (by assumption) ?rest5
        case hi5 => (simp only [List.getElem?_toArray, List.getElem?_cons_zero, List.getElem?_cons_succ]; rfl)
        case hQ5 => exact fun _ _ _ h => h
        case hy5 => exact y_any b (off + (k + 1) * 2) _ (fun U hU => (hU.cell (p := ⟨b, off + (k + 1) * 2, none⟩) hbw).trans HCT.out) _ Tryd.underlying22 rfl rfl rfl
        simp only [Act.put, List.setIfInBounds_toArray, List.set_cons_zero, List.set_cons_succ]
        refine wpAnyH_take (i := 5) (oi := ?oi6) (v := .slice (some ⟨b, off, none⟩) n cap) ?hi6 (by kernel_rfl) (by kernel_rfl) (by kernel_rfl) ?hQ6 ?hy6 (by assumption) ?rest6
        case hi6 => (simp only [List.getElem?_toArray, List.getElem?_cons_zero, List.getElem?_cons_succ]; rfl)
        case hQ6 => exact fun _ _ _ h => h
        case hy6 => exact Or.inl ⟨by rfl, by (intro w hSw; (try dsimp only at hSw); go_simp )⟩
        simp only [Act.put, List.setIfInBounds_toArray, List.set_cons_zero, List.set_cons_succ]
        refine wpAnyH_take (i := 6) (oi := ?oi7) (v := .int .i64 ((k + 1 : Nat) : Int)) ?hi7 (by kernel_rfl) (by kernel_rfl) (by kernel_rfl) ?hQ7 ?hy7 (by assumption) ?rest7
        case hi7 => (simp only [List.getElem?_toArray, List.getElem?_cons_zero, List.getElem?_cons_succ]; rfl)
        case hQ7 => exact fun _ _ _ h => h
        case hy7 => exact Or.inl ⟨by rfl, by (intro w hSw; (try dsimp only at hSw); go_simp )⟩
        simp only [Act.put, List.setIfInBounds_toArray, List.set_cons_zero, List.set_cons_succ]
        refine wpAnyH_take (i := 7) (oi := ?oi8) (v := .int .i64 (k : Nat)) ?hi8 (by kernel_rfl) (by kernel_rfl) (by kernel_rfl) ?hQ8 ?hy8 (by assumption) ?rest8
        case hi8 => (simp only [List.getElem?_toArray, List.getElem?_cons_zero, List.getElem?_cons_succ]; rfl)
        case hQ8 => exact fun _ _ _ h => h
        case hy8 => exact Or.inl ⟨by rfl, by (intro w hSw; go_simp; exact i64_in _ (by omega) (by omega))⟩
        simp only [Act.put, List.setIfInBounds_toArray, List.set_cons_zero, List.set_cons_succ]
        refine wpAnyH_take (i := 8) (oi := ?oi9) (v := .pointer (some ⟨b, off + k * 2, none⟩)) ?hi9 (by kernel_rfl) (by kernel_rfl) (by kernel_rfl) ?hQ9 ?hy9 (by assumption) ?rest9
        case hi9 => (simp only [List.getElem?_toArray, List.getElem?_cons_zero, List.getElem?_cons_succ]; rfl)
        case hQ9 => exact fun _ _ _ h => h
        case hy9 => exact Or.inl ⟨by rfl, fun U hU => ex_idxT b off n cap k (by omega) rfl rfl U⟩
        simp only [Act.put, List.setIfInBounds_toArray, List.set_cons_zero, List.set_cons_succ]
        refine wpAnyH_take (i := 9) (oi := ?oi10) (v := .pointer (some ⟨b, off + k * 2, none⟩)) ?hi10 (by kernel_rfl) (by kernel_rfl) (by kernel_rfl) ?hQ10 ?hy10 (by assumption) ?rest10
        case hi10 => (simp only [List.getElem?_toArray, List.getElem?_cons_zero, List.getElem?_cons_succ]; rfl)
        case hQ10 => exact fun _ _ _ h => h
        case hy10 => exact Or.inl ⟨by rfl, by (intro w hSw; (try dsimp only at hSw); go_simp )⟩
        simp only [Act.put, List.setIfInBounds_toArray, List.set_cons_zero, List.set_cons_succ]
        refine wpAnyH_take (i := 10) (oi := ?oi11) (v := .int .u32 (L[k].tag : Nat)) ?hi11 (by kernel_rfl) (by kernel_rfl) (by kernel_rfl) ?hQ11 ?hy11 (by assumption) ?rest11
        case hi11 => (simp only [List.getElem?_toArray, List.getElem?_cons_zero, List.getElem?_cons_succ]; rfl)
        case hQ11 => exact fun _ _ _ h => h
        case hy11 => exact y_any b (off + k * 2) _ (fun U hU => (hU.cell (p := ⟨b, off + k * 2, none⟩) hbw).trans HCP.out) _ Tryd.underlying22 rfl rfl rfl
        simp only [Act.put, List.setIfInBounds_toArray, List.set_cons_zero, List.set_cons_succ]
        refine wpAnyH_take (i := 11) (oi := ?oi12) (v := .bool true) ?hi12 (by kernel_rfl) (by kernel_rfl) (by kernel_rfl) ?hQ12 ?hy12 (by assumption) ?rest12
        case hi12 => (simp only [List.getElem?_toArray, List.getElem?_cons_zero, List.getElem?_cons_succ]; rfl)
        case hQ12 => exact fun _ _ _ h => h
        case hy12 => exact Or.inl ⟨by rfl, by (intro w hSw; go_simp)⟩
        simp only [Act.put, List.setIfInBounds_toArray, List.set_cons_zero, List.set_cons_succ]
        refine wpAnyH_done (by kernel_rfl) ?_ _
        replace hb := below_bl rfl hb hHeld
        clear hHeld
        go_wp2
        go_ret
        exact ⟨by rw [HE.out]; rfl, hb⟩
      · have HLT := hide (show L[k].tag < L[k + 1].tag by omega)
        go_wp2
        refine wp_region_held_drew (S := (fun U => Below wr.heap.size wr U)) (by kernel_rfl) ?_ (fun hHeld => ?_)
        · exact (Below.refl _ wr).drew
        generalize wr.drew = V at hHeld ⊢
        refine wpAnyH_take (i := 0) (oi := ?oi13) (v := .slice (some ⟨b, off, none⟩) n cap) ?hi13 (by kernel_rfl) (by kernel_rfl) (by kernel_rfl) ?hQ13 ?hy13 (by assumption) ?rest13
        case hi13 => (simp only [List.getElem?_toArray, List.getElem?_cons_zero]; rfl)
        case hQ13 => exact fun _ _ _ h => h
        case hy13 => exact Or.inl ⟨by rfl, by (intro w hSw; (try dsimp only at hSw); go_simp )⟩
        simp only [Act.put, List.setIfInBounds_toArray, List.set_cons_zero, List.set_cons_succ]
        refine wpAnyH_take (i := 1) (oi := ?oi14) (v := .int .i64 ((k + 1 : Nat) : Int)) ?hi14 (by kernel_rfl) (by kernel_rfl) (by kernel_rfl) ?hQ14 ?hy14 (by assumption) ?rest14
        case hi14 => (simp only [List.getElem?_toArray, List.getElem?_cons_zero, List.getElem?_cons_succ]; rfl)
        case hQ14 => exact fun _ _ _ h => h
        case hy14 => exact Or.inl ⟨by rfl, by (intro w hSw; (try dsimp only at hSw); go_simp )⟩
        simp only [Act.put, List.setIfInBounds_toArray, List.set_cons_zero, List.set_cons_succ]
        refine wpAnyH_take (i := 2) (oi := ?oi15) (v := .pointer (some ⟨b, off + (k + 1) * 2, none⟩)) ?hi15 (by kernel_rfl) (by kernel_rfl) (by kernel_rfl) ?hQ15 ?hy15 (by assumption) ?rest15
        case hi15 => (simp only [List.getElem?_toArray, List.getElem?_cons_zero, List.getElem?_cons_succ]; rfl)
        case hQ15 => exact fun _ _ _ h => h
        case hy15 => exact Or.inl ⟨by rfl, fun U hU => ex_idxT b off n cap (k + 1) (by omega) rfl rfl U⟩
        simp only [Act.put, List.setIfInBounds_toArray, List.set_cons_zero, List.set_cons_succ]
        refine wpAnyH_take (i := 3) (oi := ?oi16) (v := .pointer (some ⟨b, off + (k + 1) * 2, none⟩)) ?hi16 (by kernel_rfl) (by kernel_rfl) (by kernel_rfl) ?hQ16 ?hy16 (by assumption) ?rest16
        case hi16 => (simp only [List.getElem?_toArray, List.getElem?_cons_zero, List.getElem?_cons_succ]; rfl)
        case hQ16 => exact fun _ _ _ h => h
        case hy16 => exact Or.inl ⟨by rfl, by (intro w hSw; (try dsimp only at hSw); go_simp )⟩
        simp only [Act.put, List.setIfInBounds_toArray, List.set_cons_zero, List.set_cons_succ]
        refine wpAnyH_take (i := 4) (oi := ?oi17) (v := .int .u32 (L[k + 1].tag : Nat)) ?hi17 (by kernel_rfl) (by kernel_rfl) (by kernel_rfl) ?hQ17 ?hy17 (by assumption) ?rest17
        case hi17 => (simp only [List.getElem?_toArray, List.getElem?_cons_zero, List.getElem?_cons_succ]; rfl)
        case hQ17 => exact fun _ _ _ h => h
        case hy17 => exact y_any b (off + (k + 1) * 2) _ (fun U hU => (hU.cell (p := ⟨b, off + (k + 1) * 2, none⟩) hbw).trans HCT.out) _ Tryd.underlying22 rfl rfl rfl
        simp only [Act.put, List.setIfInBounds_toArray, List.set_cons_zero, List.set_cons_succ]
        refine wpAnyH_take (i := 5) (oi := ?oi18) (v := .slice (some ⟨b, off, none⟩) n cap) ?hi18 (by kernel_rfl) (by kernel_rfl) (by kernel_rfl) ?hQ18 ?hy18 (by assumption) ?rest18
        case hi18 => (simp only [List.getElem?_toArray, List.getElem?_cons_zero, List.getElem?_cons_succ]; rfl)
        case hQ18 => exact fun _ _ _ h => h
        case hy18 => exact Or.inl ⟨by rfl, by (intro w hSw; (try dsimp only at hSw); go_simp )⟩
        simp only [Act.put, List.setIfInBounds_toArray, List.set_cons_zero, List.set_cons_succ]
        refine wpAnyH_take (i := 6) (oi := ?oi19) (v := .int .i64 ((k + 1 : Nat) : Int)) ?hi19 (by kernel_rfl) (by kernel_rfl) (by kernel_rfl) ?hQ19 ?hy19 (by assumption) ?rest19
        case hi19 => (simp only [List.getElem?_toArray, List.getElem?_cons_zero, List.getElem?_cons_succ]; rfl)
        case hQ19 => exact fun _ _ _ h => h
        case hy19 => exact Or.inl ⟨by rfl, by (intro w hSw; (try dsimp only at hSw); go_simp )⟩
        simp only [Act.put, List.setIfInBounds_toArray, List.set_cons_zero, List.set_cons_succ]
        refine wpAnyH_take (i := 7) (oi := ?oi20) (v := .int .i64 (k : Nat)) ?hi20 (by kernel_rfl) (by kernel_rfl) (by kernel_rfl) ?hQ20 ?hy20 (by assumption) ?rest20
        case hi20 => (simp only [List.getElem?_toArray, List.getElem?_cons_zero, List.getElem?_cons_succ]; rfl)
        case hQ20 => exact fun _ _ _ h => h
        case hy20 => exact Or.inl ⟨by rfl, by (intro w hSw; go_simp; exact i64_in _ (by omega) (by omega))⟩
        simp only [Act.put, List.setIfInBounds_toArray, List.set_cons_zero, List.set_cons_succ]
        refine wpAnyH_take (i := 8) (oi := ?oi21) (v := .pointer (some ⟨b, off + k * 2, none⟩)) ?hi21 (by kernel_rfl) (by kernel_rfl) (by kernel_rfl) ?hQ21 ?hy21 (by assumption) ?rest21
        case hi21 => (simp only [List.getElem?_toArray, List.getElem?_cons_zero, List.getElem?_cons_succ]; rfl)
        case hQ21 => exact fun _ _ _ h => h
        case hy21 => exact Or.inl ⟨by rfl, fun U hU => ex_idxT b off n cap k (by omega) rfl rfl U⟩
        simp only [Act.put, List.setIfInBounds_toArray, List.set_cons_zero, List.set_cons_succ]
        refine wpAnyH_take (i := 9) (oi := ?oi22) (v := .pointer (some ⟨b, off + k * 2, none⟩)) ?hi22 (by kernel_rfl) (by kernel_rfl) (by kernel_rfl) ?hQ22 ?hy22 (by assumption) ?rest22
        case hi22 => (simp only [List.getElem?_toArray, List.getElem?_cons_zero, List.getElem?_cons_succ]; rfl)
        case hQ22 => exact fun _ _ _ h => h
        case hy22 => exact Or.inl ⟨by rfl, by (intro w hSw; (try dsimp only at hSw); go_simp )⟩
        simp only [Act.put, List.setIfInBounds_toArray, List.set_cons_zero, List.set_cons_succ]
        refine wpAnyH_take (i := 10) (oi := ?oi23) (v := .int .u32 (L[k].tag : Nat)) ?hi23 (by kernel_rfl) (by kernel_rfl) (by kernel_rfl) ?hQ23 ?hy23 (by assumption) ?rest23
        case hi23 => (simp only [List.getElem?_toArray, List.getElem?_cons_zero, List.getElem?_cons_succ]; rfl)
        case hQ23 => exact fun _ _ _ h => h
        case hy23 => exact y_any b (off + k * 2) _ (fun U hU => (hU.cell (p := ⟨b, off + k * 2, none⟩) hbw).trans HCP.out) _ Tryd.underlying22 rfl rfl rfl
        simp only [Act.put, List.setIfInBounds_toArray, List.set_cons_zero, List.set_cons_succ]
        refine wpAnyH_take (i := 11) (oi := ?oi24) (v := .bool false) ?hi24 (by kernel_rfl) (by kernel_rfl) (by kernel_rfl) ?hQ24 ?hy24 (by assumption) ?rest24
        case hi24 => (simp only [List.getElem?_toArray, List.getElem?_cons_zero, List.getElem?_cons_succ]; rfl)
        case hQ24 => exact fun _ _ _ h => h
        case hy24 => exact Or.inl ⟨by rfl, by (intro w hSw; go_simp)⟩
        simp only [Act.put, List.setIfInBounds_toArray, List.set_cons_zero, List.set_cons_succ]
        refine wpAnyH_done (by kernel_rfl) ?_ _
        replace hb := below_bl rfl hb hHeld
        clear hHeld
        go_wp2
        go_roundw
        case rel => exact ⟨k + 1, hkp, by go_num, (fun j h1 h2 => by
          by_cases hj : j = k
          · subst hj; exact HLT.out
          · exact HAS.out j h1 (by omega)), hb⟩
        case measure => simp [intOf]; omega
    · have HE := hide (show res = true by
        rw [← HRS.out]
        exact (asc_iff L).2 fun j h => HAS.out j h (by have := HN.out; omega))
      go_wp2
      go_ret
      exact ⟨by rw [HE.out]; rfl, hb⟩
def FsRel (L : List Sct) (N : Nat) (w0 : World) (sv iv : Value) (wr : World) : Prop := ∃ k : Nat, k ≤ L.length ∧ iv = .int .i64 (k : Nat) ∧ sv = .int .u64 (sizeL (L.take k) : Nat) ∧ Below N w0 wr
theorem zero_ts : ∀ w : World, (zeroValue 82).run Tryd.prog w = .ok (.agg #[.int .u32 0, .slice none 0 0]) w := fun w => by kernel_rfl
theorem size_two (p q : Value) : (Tryd.prog.info? 82).map (·.size) = some (#[p, q] : Array Value).size := size_ts
theorem one_two (z : Int) (ad : Option Addr) (n cap : Nat) : (#[Value.int .u32 z, .slice ad n cap] : Array Value).all (·.oneCell') = true := by simp [Value.oneCell']
/-- The bytes of a section in a block. -/
theorem ld_two1 {N : Nat} {p q : Value} (hr : RowAt w N #[p, q] t) (hx : a.eval x = .pointer (some ⟨N, 1, none⟩)) (k : wpList Tryd.prog ops Q rest (a.put dst q) w) : wpList Tryd.prog ops Q (⟨dst, .load 26 x, ty, pos, after, none⟩ :: rest) a w :=
  op_load_cell N 1 hx _ q _ hr rfl _ Tryd.underlying26 rfl k
theorem ld_two0 {N : Nat} {p q : Value} (hr : RowAt w N #[p, q] t) (hx : a.eval x = .pointer (some ⟨N, 0, none⟩)) (k : wpList Tryd.prog ops Q rest (a.put dst p) w) : wpList Tryd.prog ops Q (⟨dst, .load 22 x, ty, pos, after, none⟩ :: rest) a w :=
  op_load_cell N 0 hx _ p _ hr rfl _ Tryd.underlying22 rfl k
set_option maxRecDepth 100000 in
set_option maxHeartbeats 4000000 in
theorem fileSize_any {B : Nat} {v : Value} {L : List Sct} (w : World) (h : Secs B w v L) (hB : B ≤ w.heap.size) (hsz : sizeL L ≤ 100000000) :
    Calls Tryd.prog 34 #[v] w fun e w' => e = .returned (.int .u64 (sizeL L : Nat)) ∧ Below w.heap.size w w' := by
  obtain ⟨n, hn⟩ : ∃ n, L.length = n := ⟨_, rfl⟩
  have HN := hide hn
  have HSE := hide h
  have HSZ := hide hsz
  obtain ⟨ad, cap, rfl, hcap, hmax⟩ := h.form
  rw [hn] at hcap ⊢
  have hb : Below w.heap.size w w := Below.refl _ w
  have HBL := hide (fun s hs => b_le L s hs)
  clear h hn hsz
  go_enter Tryd.func34, Tryd.ntmps34
  go_wp2
  go_loopw [3, 8] (FsRel L w.heap.size w) (fun _ iv _ => n - (intOf iv).toNat)
  case atStart => exact ⟨0, Nat.zero_le _, rfl, by simp [sizeL], hb⟩
  case round =>
    clear hb
    obtain ⟨k, hk, rfl, rfl, hb⟩ := hrel
    have hkn : k ≤ n := by have := HN.out; omega
    have hszk : sizeL (L.take k) ≤ 100000000 := Nat.le_trans (size_le L k) HSZ.out
    clear hk
    by_cases hlt : k < n
    · obtain ⟨b, off, cap', hv, _, _, hbB, HC⟩ := HSE.out.all (by have := HN.out; omega)
      injection hv with hv hv2 hv3
      subst hv hv3
      clear hv2
      have hkl : k < L.length := by have := HN.out; omega
      obtain ⟨c1, u, c2, c3⟩ := HC.out k hkl
      obtain ⟨au, cu, hu, _, _⟩ := c3.form
      subst hu
      have HC0 := hide ((hb.cell (p := ⟨b, off + k * 2, none⟩) (Nat.lt_of_lt_of_le hbB hB)).trans c1)
      have HC1 := hide ((hb.cell (p := ⟨b, off + k * 2 + 1, none⟩) (Nat.lt_of_lt_of_le hbB hB)).trans c2)
      have HSC := hide (size_succ L k hkl)
      have hbl := HBL.out _ (List.getElem_mem hkl)
      have hs0 := HSZ.out
      have hbl2 : L[k].b.length ≤ 100000000 := by omega
      have HTG := hide (HSE.out.tags _ (List.getElem_mem hkl))
      clear c1 c2 c3 hbl hs0
      generalize L[k].b.length = ln at *
      generalize L[k].tag = tg at *
      generalize sizeL (L.take k) = sz at *
      go_wp2_with (first | ((with_reducible refine op_ldt b (off + k * 2) tg (.slice au ln cu) HC0.out HC1.out ?_ ?_); exact rfl) | ((with_reducible refine op_alloc wr.heap.size ?_ _ zero_ts ?_); exact rfl; intro W hx hb2 hz) | ((with_reducible refine op_store wr.heap.size ?_ (#[.int .u32 (tg : Nat), .slice au ln cu] : Array Value) ?_ _ _ hx (size_two _ _) rfl (one_two _ _ _ _) ?_); exact rfl; exact rfl; intro W2 hnew ho; replace hb2 := ho.bel _ _ (Nat.le_refl _) hb2; replace hx := hnew; clear hnew ho) | ((with_reducible refine ld_two1 hx ?_ ?_); exact rfl))
      replace hb := below_bl rfl hb hb2
      go_roundw
      case rel => exact ⟨k + 1, hkl, by go_num, by rw [HSC.out]; go_num, hb⟩
      case measure => simp [intOf]; omega
    · obtain rfl : k = n := by omega
      have htk : L.take k = L := List.take_of_length_le (by have := HN.out; omega)
      rw [htk]
      go_wp2
      go_ret
      exact ⟨rfl, hb⟩
end Go.Proofs.YtkahkkcbigifiaaDoor
