/-
  What the laws ask of tlv; sure.
-/
import Derived.Test.YtkahkkcbigifiaaDoorTvDecM
import Derived.Deep.MidRow
namespace Go.Proofs.YtkahkkcbigifiaaDoor
open Go.RowKit
set_option linter.unusedVariables false
set_option linter.unusedSimpArgs false

/-- What Encode, Decode and Find answer. -/
structure Con (Gd : World → Prop) : Prop where
  bel : ∀ w w', Gd w → Below w.heap.size w w' → Gd w'
  enc : ∀ (w : World) (B : Nat) (v : Value) (L : List Sct) (ver : Nat), Gd w → Secs B w v L → B ≤ w.heap.size → ver < 4294967296 → L.length ≤ 4096 → sizeL L ≤ 100000 →
    Calls Tryd.prog 11 #[.int .u32 (ver : Nat), v] w fun e w' => ∃ v', e = .returned (.tuple #[v', errS (encE L)]) ∧ Rd w'.heap.size w' v' (encB ver L) ∧ Below w.heap.size w w'
  dec : ∀ (w : World) (B : Nat) (v : Value) (b : List Nat), Gd w → Rd B w v b → B ≤ w.heap.size → b.length ≤ 100000 →
    Calls Tryd.prog 17 #[v] w fun e w' => ∃ v', e = .returned (.tuple #[.int .u32 (decV b : Nat), v', errS (decE b)]) ∧ Secs w'.heap.size w' v' (decM b) ∧ Below w.heap.size w w'
  find : ∀ (w : World) (B : Nat) (v : Value) (L : List Sct) (tag : Nat), Gd w → Secs B w v L → B ≤ w.heap.size → tag < 4294967296 → sizeL L ≤ 100000 →
    Calls Tryd.prog 14 #[v, .int .u32 (tag : Nat)] w fun e w' => ∃ u, e = .returned (.tuple #[u, errS (findE tag L)]) ∧ Rd w'.heap.size w' u (findB tag L) ∧ Below w.heap.size w w'
theorem info_ts : ∃ i, Tryd.prog.info? 82 = some i ∧ i.zero = some (.agg #[.int .u32 0, .slice none 0 0]) ∧ i.size = 2 ∧ i.bytes = 32 := by
  have hm : (Tryd.prog.info? 82).map (fun i => (i.zero, i.size, i.bytes)) = some (some (.agg #[.int .u32 0, .slice none 0 0]), 2, 32) := by kernel_rfl
  obtain ⟨i, hi, hm⟩ := Option.map_eq_some_iff.1 hm
  exact ⟨i, hi, congrArg (·.1) hm, congrArg (·.2.1) hm, congrArg (·.2.2) hm⟩
variable {P : Program} {ops : Array Oper} {rest : List Oper} {dst : Option Tmp} {ty t t2 : TypeId} {pos : String} {after : Array Edge} {a : Act} {w : World} {Q : Exit → Act → World → Prop} {K : Act → World → Prop} {x y z : Operand} {gd : Option (Nat × Bool)}
theorem take_snoc (L : List Sct) (k : Nat) (hk : k < L.length) : L.take (k + 1) = L.take k ++ [L[k]] := by
  rw [List.take_add_one, List.getElem?_eq_getElem hk]; rfl
/-- How many bytes there are. -/
def totL : List Sct → Nat
  | [] => 0
  | s :: l => s.b.length + totL l
theorem tot_le : ∀ (L : List Sct) (k : Nat), totL (L.take k) ≤ totL L
  | [], k => by simp [totL]
  | s :: L, 0 => Nat.zero_le _
  | s :: L, k + 1 => by
    have := tot_le L k
    simp only [List.take_succ_cons, totL]
    omega
theorem tot_succ : ∀ (L : List Sct) (k : Nat) (hk : k < L.length), totL (L.take (k + 1)) = totL (L.take k) + L[k].b.length
  | [], k, hk => by simp at hk
  | s :: L, 0, _ => by simp [totL]
  | s :: L, k + 1, hk => by
    have := tot_succ L k (by simpa using hk)
    simp only [List.take_succ_cons, totL, List.getElem_cons_succ]
    omega
theorem size_tot : ∀ L : List Sct, sizeL L = 16 + 12 * L.length + totL L
  | [] => rfl
  | s :: L => by
    have := size_tot L
    simp only [sizeL, totL, List.length_cons]
    omega
def longB (L : List Sct) : Bool := decide (200 < L.length) || decide (20000 < totL (L.take 5000))
theorem enc_nil : encE [] = 0 := by decide
theorem sure_file : encB 3 [] = fileL 3 [] := by rw [encB, if_pos enc_nil]
theorem sure_dec : decL (fileL 3 []) = .inr (3, []) := dec_file 3 [] (by decide) (fun s hs => by cases hs) enc_nil
set_option maxRecDepth 100000 in
set_option maxHeartbeats 2000000 in
theorem tsure_any {Gd : World → Prop} (C : Con Gd) (w : World) (hG : Gd w) :
    Calls Tryd.prog 10 #[] w fun e w' => e = .returned (.bool true) ∧ Below w.heap.size w w' := by
  have HE := hide (C.enc w w.heap.size _ [] 3 hG (Secs.nil _ _) (Nat.le_refl _) (by decide) (by decide) (by decide))
  rw [enc_nil, sure_file] at HE
  have h0 : errS 0 = .nilIface := rfl
  rw [h0] at HE
  have hl : (fileL 3 []).length = 16 := file_len 3 []
  have HD := hide (fun (W : World) (v : Value) (hg : Gd W) (hR : Rd W.heap.size W v (fileL 3 [])) => C.dec W _ v _ hg hR (Nat.le_refl _) (by rw [hl]; decide))
  obtain ⟨f1, f2, f3⟩ := dec_fine sure_dec
  rw [f1, f2, f3, h0] at HD
  have HL := hide hl
  have HG := hide (fun W hb => C.bel w W hG hb)
  generalize fileL 3 [] = fl at *
  clear h0 hl f1 f2 f3 hG
  go_enter Tryd.func10, Tryd.ntmps10
  go_wp2_with (first | (go_at_call 11; refine (HE.out).mono ?_; rintro e W ⟨v1, rfl, hr1, hb⟩; have HR := hide hr1; obtain ⟨a1, c1, hv1, _, _⟩ := hr1.form; rw [HL.out] at hv1; subst hv1; clear hr1) | (go_at_call 17; refine (HD.out _ _ (HG.out _ hb) HR.out).mono ?_; rintro e W2 ⟨v2, rfl, hs2, hb2⟩; obtain ⟨a2, c2, hv2, _, _⟩ := hs2.form; replace hv2 : _ = Value.slice a2 0 c2 := hv2; subst hv2; replace hb := below_bl rfl hb hb2; clear hs2 hb2))
  go_ret
  exact ⟨rfl, hb⟩
theorem not_long {L : List Sct} (h : longB L = false) : L.length ≤ 200 ∧ totL L ≤ 20000 ∧ sizeL L ≤ 22416 := by
  unfold longB at h
  simp only [Bool.or_eq_false_iff, decide_eq_false_iff_not] at h
  have h1 : L.length ≤ 200 := by omega
  have h2 : totL L ≤ 20000 := by
    have := h.2
    rw [List.take_of_length_le (by omega)] at this
    omega
  have := size_tot L
  exact ⟨h1, h2, by omega⟩

theorem tot_bound : ∀ (L : List Sct) (R k : Nat), (∀ s ∈ L, s.b.length ≤ R) → totL (L.take k) ≤ k * R
  | [], R, k, _ => by simp [totL]
  | s :: L, R, 0, _ => by simp [totL]
  | s :: L, R, k + 1, h => by
    have h1 := h s (by simp)
    have h2 := tot_bound L R k fun t ht => h t (by simp [ht])
    rw [List.take_succ_cons, totL, Nat.add_mul]
    omega
theorem tot_reach {L : List Sct} (h : ∀ s ∈ L, s.b.length ≤ reachBytes) : totL (L.take 5000) ≤ 4611686018427387904 :=
  Nat.le_trans (tot_bound L reachBytes 5000 h) (by decide)
end Go.Proofs.YtkahkkcbigifiaaDoor
