/-
  SumThree, walked.
-/
import Derived.Test.YtnokcfaipbolkaaDoorSmSure
namespace Go.Proofs.YtnokcfaipbolkaaDoor
open Go.RowKit
set_option linter.unusedVariables false
set_option linter.unusedSimpArgs false

def x3 (a b c : List Nat) (k : Nat) : List Nat := (List.range k).map fun i => a.getD i 0 ^^^ b.getD i 0 ^^^ c.getD i 0
theorem x3_len (a b c : List Nat) (k : Nat) : (x3 a b c k).length = k := by simp [x3]
theorem x3_succ (a b c : List Nat) (k : Nat) : x3 a b c (k + 1) = x3 a b c k ++ [a.getD k 0 ^^^ b.getD k 0 ^^^ c.getD k 0] := by
  simp [x3, List.range_succ]
theorem x3_sum (a b c : List Nat) (n : Nat) (ha : n ≤ a.length) (hb : n ≤ b.length) (hc : n ≤ c.length) : sumL (x3 a b c n) = sumL (a.take n) ^^^ sumL (b.take n) ^^^ sumL (c.take n) := by
  refine sum_three _ _ _ _ (by rw [x3_len, List.length_take]; omega) (by rw [x3_len, List.length_take]; omega) (by rw [x3_len, List.length_take]; omega) fun i hi => ?_
  rw [x3_len] at hi
  have e : ∀ l : List Nat, (l.take n).getD i 0 = l.getD i 0 := fun l => by
    rw [List.getD_eq_getElem?_getD, List.getD_eq_getElem?_getD, List.getElem?_take, if_pos hi]
  rw [e, e, e]
  have h1 : (x3 a b c n)[i]? = some (a.getD i 0 ^^^ b.getD i 0 ^^^ c.getD i 0) := by
    rw [x3, List.getElem?_map, List.getElem?_range hi]; rfl
  rw [List.getD_eq_getElem?_getD, h1]
  rfl
theorem xor_u8 (a b : Nat) (ha : a < 256) (hb : b < 256) : bits .xor .u8 (a : Nat) (b : Nat) = ((a ^^^ b : Nat) : Int) := by
  have ha' : a % 2 ^ 8 = a := Nat.mod_eq_of_lt ha
  have hb' : b % 2 ^ 8 = b := Nat.mod_eq_of_lt hb
  have := Nat.xor_lt_two_pow (n := 8) ha hb
  simp only [bits, show IntKind.u8.bits = 8 from rfl, BitVec.ofInt_natCast, BitVec.toNat_xor, BitVec.toNat_ofNat, ha', hb', IntKind.wrap_u8]
  omega
theorem min4 (P : Program) (a b c d : Nat) (ts : Array TypeId) (t : TypeId) (w : World) : (Builtin.min_ ts t #[.int .i64 (a : Nat), .int .i64 (b : Nat), .int .i64 (c : Nat), .int .i64 (d : Nat)]).run P w = .ok (.int .i64 ((min (min (min a b) c) d : Nat) : Int)) w := by
  have h : (Builtin.min_ ts t #[.int .i64 (a : Nat), .int .i64 (b : Nat), .int .i64 (c : Nat), .int .i64 (d : Nat)]).run P w = .ok (.int .i64 (if (d : Int) < (if (c : Int) < (if (b : Int) < (a : Int) then (b : Int) else (a : Int)) then (c : Int) else (if (b : Int) < (a : Int) then (b : Int) else (a : Int))) then (d : Int) else (if (c : Int) < (if (b : Int) < (a : Int) then (b : Int) else (a : Int)) then (c : Int) else (if (b : Int) < (a : Int) then (b : Int) else (a : Int))))) w := by
    simp [Builtin.min_, Builtin.min2]
  rw [h]
  congr 2
  split <;> split <;> split <;> omega
variable {P : Program} {ops : Array Oper} {rest : List Oper} {dst : Option Tmp} {ty t t2 : TypeId} {pos : String} {after : Array Edge} {a : Act} {w : World} {Q : Exit → Act → World → Prop} {K : Act → World → Prop} {x y : Operand} {gd : Option (Nat × Bool)}
theorem ex_xor8 (m n : Nat) (hm : m < 256) (hn : n < 256) (hx : a.eval x = .int .u8 (m : Nat)) (hy : a.eval y = .int .u8 (n : Nat)) (w : World) :
    (execOp a.eval ⟨dst, .binOp .xor 5 x y t2, ty, pos, after, gd⟩).run Tryd.prog w = .ok (.value (.int .u8 ((m ^^^ n : Nat) : Int))) w := by
  unfold execOp
  simp only [hx, hy]
  go_simp
  rw [xor_u8 m n hm hn]
theorem ex_xor32 (m n : Nat) (hm : m < 4294967296) (hn : n < 4294967296) (hx : a.eval x = .int .u32 (m : Nat)) (hy : a.eval y = .int .u32 (n : Nat)) (w : World) :
    (execOp a.eval ⟨dst, .binOp .xor 22 x y t2, ty, pos, after, gd⟩).run Tryd.prog w = .ok (.value (.int .u32 ((m ^^^ n : Nat) : Int))) w := by
  unfold execOp
  simp only [hx, hy]
  go_simp
  rw [xor_u32 m n hm hn]
theorem ex_idx (b off len cap k : Nat) (hk : k < len) (hx : a.eval x = .slice (some ⟨b, off, none⟩) len cap) (hy : a.eval y = .int .i64 (k : Nat)) (w : World) :
    (execOp a.eval ⟨dst, .indexAddr 23 x y, ty, pos, after, gd⟩).run Tryd.prog w = .ok (.value (.pointer (some ⟨b, off + k, none⟩))) w := by
  have hk1 : (0 : Int) ≤ (k : Int) ∧ (k : Int) < (len : Int) := by omega
  have hu : Tryd.prog.underlying 23 = some (.slice 5) := Tryd.underlying23
  unfold execOp
  have hk2 : ¬ len ≤ k := by omega
  simp [hx, hy, Instr.indexAt, asIntOf, run_underlying hu, hk1, hk2, siz_u8, Addr.add_lit]
theorem bs1 (z : Int) : BuiltR Tryd.prog 5 1 [(0, .int .u8 z)] #[.int .u8 z] := ⟨by kernel_rfl⟩
theorem y_byte {B : Nat} {w0 : World} {l : List Nat} {S : World → Prop} (b off len cap k : Nat) (hk : k < l.length) (h : Rd B w0 (.slice (some ⟨b, off, none⟩) len cap) l) (hS : ∀ U, S U → Below B w0 U) (hx : a.eval x = .pointer (some ⟨b, off + k, none⟩)) :
    YieldsIf Tryd.prog ops S ⟨dst, .load 5 x, ty, pos, after, none⟩ (.int .u8 (l.getD k 0 : Nat)) a := by
  refine y_cell b (off + k) _ (fun U hU => ?_) (.int .u8) Tryd.underlying5 rfl hx
  obtain ⟨b', o', c', e, hB, hc⟩ := h.some1 (by omega)
  injection e with e1 _ _
  injection e1 with e1
  injection e1 with e1 e2 _
  subst e1 e2
  rw [(hS U hU).cell (p := ⟨b, off + k, none⟩) hB, hc k hk, List.getD_eq_getElem?_getD, List.getElem?_eq_getElem hk]
  rfl
def ThRel (a b c : List Nat) (n N : Nat) (w0 : World) (xv iv : Value) (wr : World) : Prop := ∃ k : Nat, k ≤ n ∧ iv = .int .i64 (k : Nat) ∧ Own N 5 wr xv (x3 a b c k) ∧ Below N w0 wr
set_option maxHeartbeats 4000000 in
theorem three_walk {va vb vc : Value} {a b c : List Nat} (w : World) (ha : Rd w.heap.size w va a) (hb : Rd w.heap.size w vb b) (hc : Rd w.heap.size w vc c) (hT : TabAt w) :
    Calls Tryd.prog 7 #[va, vb, vc] w fun e w' => e = .returned (.bool true) ∧ Below w.heap.size w w' := by
  obtain ⟨i0, hi0, hz0, hs0, hb0⟩ := info_u8
  have HI := hide hi0
  have HZ := hide hz0
  have HS := hide hs0
  have HB := hide hb0
  clear hi0 hz0 hs0 hb0
  have HA := hide ha
  have HBB := hide hb
  have HC := hide hc
  have HT := hide hT
  obtain ⟨n, hn⟩ : ∃ n, min (min (min a.length b.length) c.length) 5000 = n := ⟨_, rfl⟩
  have hmin := fun (ts : Array TypeId) (t : TypeId) (w : World) => min4 Tryd.prog a.length b.length c.length 5000 ts t w
  rw [hn, show ((5000 : Nat) : Int) = 5000 from rfl] at hmin
  have hna : n ≤ a.length := by omega
  have hnb : n ≤ b.length := by omega
  have hnc : n ≤ c.length := by omega
  have hn5 : n ≤ 5000 := by omega
  have HX3 := hide (x3_sum a b c n hna hnb hnc)
  have HNA := hide hna
  have HNB := hide hnb
  have HNC := hide hnc
  clear hn
  obtain ⟨aa, ca, hva, hca, hma⟩ := ha.form
  obtain ⟨ab, cb, hvb, hcb, hmb⟩ := hb.form
  obtain ⟨ac, cc, hvc, hcc, hmc⟩ := hc.form
  subst hva hvb hvc
  clear ha hb hc hT hna hnb hnc
  have hbw : Below w.heap.size w w := Below.refl _ w
  go_enter Tryd.func7, Tryd.ntmps7
  go_wp2
  clear hmin
  go_loopw [8, 9] (ThRel a b c n w.heap.size w) (fun _ iv _ => n - (intOf iv).toNat)
  case atStart => exact ⟨0, Nat.zero_le _, rfl, Own.nil _ _ _, hbw⟩
  case round =>
    obtain ⟨k, hk, rfl, hown, hbr⟩ := hrel
    clear hbw
    have HO := hide hown
    clear hown
    by_cases hlt : k < n
    · obtain ⟨ba, oa, ca', hva, hla, hma', hBa, _, _⟩ := HA.out.all (by have := HNA.out; omega)
      obtain ⟨bb, ob, cb', hvb, hlb, hmb', hBb, _, _⟩ := HBB.out.all (by have := HNB.out; omega)
      obtain ⟨bc, oc, cc', hvc, hlc, hmc', hBc, _, _⟩ := HC.out.all (by have := HNC.out; omega)
      obtain ⟨rfl, rfl⟩ : aa = some ⟨ba, oa, none⟩ ∧ ca = ca' := by injection hva with h1 h2 h3; exact ⟨h1, h3⟩
      obtain ⟨rfl, rfl⟩ : ab = some ⟨bb, ob, none⟩ ∧ cb = cb' := by injection hvb with h1 h2 h3; exact ⟨h1, h3⟩
      obtain ⟨rfl, rfl⟩ : ac = some ⟨bc, oc, none⟩ ∧ cc = cc' := by injection hvc with h1 h2 h3; exact ⟨h1, h3⟩
      have hka : k < a.length := by have := HNA.out; omega
      have hkb : k < b.length := by have := HNB.out; omega
      have hkc : k < c.length := by have := HNC.out; omega
      have HX := hide (x3_succ a b c k)
      have HXL := hide (x3_len a b c k)
      have HLA := hide (show a.getD k 0 < 256 by rw [List.getD_eq_getElem?_getD, List.getElem?_eq_getElem hka]; exact HA.out.lt _ (List.getElem_mem hka))
      have HLB := hide (show b.getD k 0 < 256 by rw [List.getD_eq_getElem?_getD, List.getElem?_eq_getElem hkb]; exact HBB.out.lt _ (List.getElem_mem hkb))
      have HLC := hide (show c.getD k 0 < 256 by rw [List.getD_eq_getElem?_getD, List.getElem?_eq_getElem hkc]; exact HC.out.lt _ (List.getElem_mem hkc))
      clear hva hvb hvc
      go_wp2
      refine wp_region_held_drew (S := (fun U => Below w.heap.size w U)) (by kernel_rfl) ?_ (fun hHeld => ?_)
      · exact hbr.drew
      replace HO := hide (⟨HO.out.lt, HO.out.row⟩ : Own w.heap.size 5 wr.drew u8 (x3 a b c k))
      clear hbr
      generalize wr.drew = V at hHeld HO ⊢
      refine wpAnyH_take (i := 0) (oi := ?oi1) (v := u8) ?hi1 (by kernel_rfl) (by kernel_rfl) (by kernel_rfl) ?hQ1 ?hy1 (by assumption) ?rest1
      case hi1 => (simp only [List.getElem?_toArray, List.getElem?_cons_zero]; rfl)
      case hQ1 => exact fun _ _ _ h => h
      case hy1 => exact Or.inl ⟨by rfl, by (intro w hSw; (try dsimp only at hSw); go_simp )⟩
      simp only [Act.put, List.setIfInBounds_toArray, List.set_cons_zero, List.set_cons_succ]
      refine wpAnyH_take (i := 1) (oi := ?oi2) (v := .slice (some ⟨ba, oa, none⟩) a.length ca) ?hi2 (by kernel_rfl) (by kernel_rfl) (by kernel_rfl) ?hQ2 ?hy2 (by assumption) ?rest2
      case hi2 => (simp only [List.getElem?_toArray, List.getElem?_cons_zero, List.getElem?_cons_succ]; rfl)
      case hQ2 => exact fun _ _ _ h => h
      case hy2 => exact Or.inl ⟨by rfl, by (intro w hSw; (try dsimp only at hSw); go_simp )⟩
      simp only [Act.put, List.setIfInBounds_toArray, List.set_cons_zero, List.set_cons_succ]
      refine wpAnyH_take (i := 2) (oi := ?oi3) (v := .int .i64 (k : Nat)) ?hi3 (by kernel_rfl) (by kernel_rfl) (by kernel_rfl) ?hQ3 ?hy3 (by assumption) ?rest3
      case hi3 => (simp only [List.getElem?_toArray, List.getElem?_cons_zero, List.getElem?_cons_succ]; rfl)
      case hQ3 => exact fun _ _ _ h => h
      case hy3 => exact Or.inl ⟨by rfl, by (intro w hSw; (try dsimp only at hSw); go_simp )⟩
      simp only [Act.put, List.setIfInBounds_toArray, List.set_cons_zero, List.set_cons_succ]
      refine wpAnyH_take (i := 3) (oi := ?oi4) (v := .pointer (some ⟨ba, oa + k, none⟩)) ?hi4 (by kernel_rfl) (by kernel_rfl) (by kernel_rfl) ?hQ4 ?hy4 (by assumption) ?rest4
      case hi4 => (simp only [List.getElem?_toArray, List.getElem?_cons_zero, List.getElem?_cons_succ]; rfl)
      case hQ4 => exact fun _ _ _ h => h
      case hy4 => exact Or.inl ⟨by rfl, fun U hU => ex_idx ba oa a.length ca k hka rfl rfl U⟩
      simp only [Act.put, List.setIfInBounds_toArray, List.set_cons_zero, List.set_cons_succ]
      refine wpAnyH_take (i := 4) (oi := ?oi5) (v := .int .u8 (a.getD k 0 : Nat)) ?hi5 (by kernel_rfl) (by kernel_rfl) (by kernel_rfl) ?hQ5 ?hy5 (by assumption) ?rest5
      case hi5 => (simp only [List.getElem?_toArray, List.getElem?_cons_zero, List.getElem?_cons_succ]; rfl)
      case hQ5 => exact fun _ _ _ h => h
      case hy5 => exact y_byte ba oa a.length ca k hka HA.out (fun U hU => hU) rfl
      simp only [Act.put, List.setIfInBounds_toArray, List.set_cons_zero, List.set_cons_succ]
      refine wpAnyH_take (i := 5) (oi := ?oi6) (v := .slice (some ⟨bb, ob, none⟩) b.length cb) ?hi6 (by kernel_rfl) (by kernel_rfl) (by kernel_rfl) ?hQ6 ?hy6 (by assumption) ?rest6
      case hi6 => (simp only [List.getElem?_toArray, List.getElem?_cons_zero, List.getElem?_cons_succ]; rfl)
      case hQ6 => exact fun _ _ _ h => h
      case hy6 => exact Or.inl ⟨by rfl, by (intro w hSw; (try dsimp only at hSw); go_simp )⟩
      simp only [Act.put, List.setIfInBounds_toArray, List.set_cons_zero, List.set_cons_succ]
      refine wpAnyH_take (i := 6) (oi := ?oi7) (v := .int .i64 (k : Nat)) ?hi7 (by kernel_rfl) (by kernel_rfl) (by kernel_rfl) ?hQ7 ?hy7 (by assumption) ?rest7
      case hi7 => (simp only [List.getElem?_toArray, List.getElem?_cons_zero, List.getElem?_cons_succ]; rfl)
      case hQ7 => exact fun _ _ _ h => h
      case hy7 => exact Or.inl ⟨by rfl, by (intro w hSw; (try dsimp only at hSw); go_simp )⟩
      simp only [Act.put, List.setIfInBounds_toArray, List.set_cons_zero, List.set_cons_succ]
      refine wpAnyH_take (i := 7) (oi := ?oi8) (v := .pointer (some ⟨bb, ob + k, none⟩)) ?hi8 (by kernel_rfl) (by kernel_rfl) (by kernel_rfl) ?hQ8 ?hy8 (by assumption) ?rest8
      case hi8 => (simp only [List.getElem?_toArray, List.getElem?_cons_zero, List.getElem?_cons_succ]; rfl)
      case hQ8 => exact fun _ _ _ h => h
      case hy8 => exact Or.inl ⟨by rfl, fun U hU => ex_idx bb ob b.length cb k hkb rfl rfl U⟩
      simp only [Act.put, List.setIfInBounds_toArray, List.set_cons_zero, List.set_cons_succ]
      refine wpAnyH_take (i := 8) (oi := ?oi9) (v := .int .u8 (b.getD k 0 : Nat)) ?hi9 (by kernel_rfl) (by kernel_rfl) (by kernel_rfl) ?hQ9 ?hy9 (by assumption) ?rest9
      case hi9 => (simp only [List.getElem?_toArray, List.getElem?_cons_zero, List.getElem?_cons_succ]; rfl)
      case hQ9 => exact fun _ _ _ h => h
      case hy9 => exact y_byte bb ob b.length cb k hkb HBB.out (fun U hU => hU) rfl
      simp only [Act.put, List.setIfInBounds_toArray, List.set_cons_zero, List.set_cons_succ]
      refine wpAnyH_take (i := 9) (oi := ?oi10) (v := .int .u8 ((a.getD k 0 ^^^ b.getD k 0 : Nat) : Int)) ?hi10 (by kernel_rfl) (by kernel_rfl) (by kernel_rfl) ?hQ10 ?hy10 (by assumption) ?rest10
      case hi10 => (simp only [List.getElem?_toArray, List.getElem?_cons_zero, List.getElem?_cons_succ]; rfl)
      case hQ10 => exact fun _ _ _ h => h
      case hy10 => exact Or.inl ⟨by rfl, fun U hU => ex_xor8 _ _ HLA.out HLB.out rfl rfl U⟩
      simp only [Act.put, List.setIfInBounds_toArray, List.set_cons_zero, List.set_cons_succ]
      refine wpAnyH_take (i := 10) (oi := ?oi11) (v := .slice (some ⟨bc, oc, none⟩) c.length cc) ?hi11 (by kernel_rfl) (by kernel_rfl) (by kernel_rfl) ?hQ11 ?hy11 (by assumption) ?rest11
      case hi11 => (simp only [List.getElem?_toArray, List.getElem?_cons_zero, List.getElem?_cons_succ]; rfl)
      case hQ11 => exact fun _ _ _ h => h
      case hy11 => exact Or.inl ⟨by rfl, by (intro w hSw; (try dsimp only at hSw); go_simp )⟩
      simp only [Act.put, List.setIfInBounds_toArray, List.set_cons_zero, List.set_cons_succ]
      refine wpAnyH_take (i := 11) (oi := ?oi12) (v := .int .i64 (k : Nat)) ?hi12 (by kernel_rfl) (by kernel_rfl) (by kernel_rfl) ?hQ12 ?hy12 (by assumption) ?rest12
      case hi12 => (simp only [List.getElem?_toArray, List.getElem?_cons_zero, List.getElem?_cons_succ]; rfl)
      case hQ12 => exact fun _ _ _ h => h
      case hy12 => exact Or.inl ⟨by rfl, by (intro w hSw; (try dsimp only at hSw); go_simp )⟩
      simp only [Act.put, List.setIfInBounds_toArray, List.set_cons_zero, List.set_cons_succ]
      refine wpAnyH_take (i := 12) (oi := ?oi13) (v := .pointer (some ⟨bc, oc + k, none⟩)) ?hi13 (by kernel_rfl) (by kernel_rfl) (by kernel_rfl) ?hQ13 ?hy13 (by assumption) ?rest13
      case hi13 => (simp only [List.getElem?_toArray, List.getElem?_cons_zero, List.getElem?_cons_succ]; rfl)
      case hQ13 => exact fun _ _ _ h => h
      case hy13 => exact Or.inl ⟨by rfl, fun U hU => ex_idx bc oc c.length cc k hkc rfl rfl U⟩
      simp only [Act.put, List.setIfInBounds_toArray, List.set_cons_zero, List.set_cons_succ]
      refine wpAnyH_take (i := 13) (oi := ?oi14) (v := .int .u8 (c.getD k 0 : Nat)) ?hi14 (by kernel_rfl) (by kernel_rfl) (by kernel_rfl) ?hQ14 ?hy14 (by assumption) ?rest14
      case hi14 => (simp only [List.getElem?_toArray, List.getElem?_cons_zero, List.getElem?_cons_succ]; rfl)
      case hQ14 => exact fun _ _ _ h => h
      case hy14 => exact y_byte bc oc c.length cc k hkc HC.out (fun U hU => hU) rfl
      simp only [Act.put, List.setIfInBounds_toArray, List.set_cons_zero, List.set_cons_succ]
      refine wpAnyH_take (i := 14) (oi := ?oi15) (v := .int .u8 ((a.getD k 0 ^^^ b.getD k 0 ^^^ c.getD k 0 : Nat) : Int)) ?hi15 (by kernel_rfl) (by kernel_rfl) (by kernel_rfl) ?hQ15 ?hy15 (by assumption) ?rest15
      case hi15 => (simp only [List.getElem?_toArray, List.getElem?_cons_zero, List.getElem?_cons_succ]; rfl)
      case hQ15 => exact fun _ _ _ h => h
      case hy15 => exact Or.inl ⟨by rfl, fun U hU => ex_xor8 _ _ (Nat.xor_lt_two_pow (n := 8) HLA.out HLB.out) HLC.out rfl rfl U⟩
      simp only [Act.put, List.setIfInBounds_toArray, List.set_cons_zero, List.set_cons_succ]
      generalize hz0 : a.getD k 0 ^^^ b.getD k 0 ^^^ c.getD k 0 = z at *
      have hz : z < 256 := by rw [← hz0]; exact Nat.xor_lt_two_pow (n := 8) (Nat.xor_lt_two_pow (n := 8) HLA.out HLB.out) HLC.out
      clear hz0
      obtain ⟨NX, hNX0⟩ : ∃ q, V.heap.size = q := ⟨_, rfl⟩
      have hNX := hide hNX0
      have hx0 : w.heap.size ≤ NX := hNX0 ▸ hHeld.size
      clear hNX0
      refine wpAnyH_ready (rs := [15]) (by kernel_rfl) (by simp) ?_
      refine AllReadyH.cons (o := ?oi16) ?hi16 (fun K hK => ?_) AllReadyH.nil
      case hi16 => (simp only [List.getElem?_toArray, List.getElem?_cons_zero, List.getElem?_cons_succ]; rfl)
      rw [if_pos (by rfl)]
      refine wp_bs 23 5 1 Tryd.underlying23 _ NX hNX.out [(0, .int .u8 (z : Nat))] (by simp only [List.map_toArray, List.map_cons, List.map_nil]; rfl) (bs1 (z : Nat)) ?_
      intro V2 hr hb2 hz2
      have hk2 := hHeld.trans (hb2.mono hx0)
      refine hK.out _ _ ?_ (fun hHeld => ?_)
      · exact hk2
      clear hK K
      replace HO := hide (HO.out.bl (hNX.out ▸ hb2))
      have HZ1 := hide (rd_row (l := [z]) hr (by intro q hq; rw [List.mem_singleton.1 hq]; exact hz) 1 rfl (by decide))
      clear hr hb2 hk2
      refine wpAnyH_ready (rs := [16]) (by kernel_rfl) (by simp) ?_
      refine AllReadyH.cons (o := ?oi17) ?hi17 (fun K hK => ?_) AllReadyH.nil
      case hi17 => (simp only [List.getElem?_toArray, List.getElem?_cons_zero, List.getElem?_cons_succ]; rfl)
      rw [if_pos (by rfl)]
      refine wp_app i0 Tryd.underlying23 HI.out HZ.out HS.out HB.out HO.out HZ1.out ?_ ?_ rfl rfl ?_
      · rw [HXL.out]; simp; omega
      · rw [hz2.out]; omega
      intro V3 v3 ho3 hg3
      have hk3 := HO.out.grown hg3 hHeld (by rw [hz2.out]; omega) (Nat.le_refl _)
      refine hK.out _ _ ?_ (fun hHeld => ?_)
      · exact hk3
      clear hK K
      refine wpAnyH_take (i := 17) (oi := ?oi18) (v := v3) ?hi18 (by kernel_rfl) (by kernel_rfl) (by kernel_rfl) ?hQ18 ?hy18 (by assumption) ?rest18
      case hi18 => (simp only [List.getElem?_toArray, List.getElem?_cons_zero, List.getElem?_cons_succ]; rfl)
      case hQ18 => exact fun _ _ _ h => h
      case hy18 => exact Or.inl ⟨by rfl, by (intro w hSw; (try dsimp only at hSw); go_simp )⟩
      simp only [Act.put, List.setIfInBounds_toArray, List.set_cons_zero, List.set_cons_succ]
      refine wpAnyH_done (by kernel_rfl) ?_ _
      rw [← HX.out] at ho3
      clear hHeld
      go_wp2
      go_roundw
      case rel => exact ⟨k + 1, hlt, by go_num, ho3, hk3⟩
      case measure => simp [intOf]; omega
    · obtain rfl : k = n := by omega
      have hOR := HO.out.rd
      have HA1 := hide (HA.out.to HNA.out)
      have HB1 := hide (HBB.out.to HNB.out)
      have HC1 := hide (HC.out.to HNC.out)
      have HLL := hide (show (a.take k).length ≤ 100000 by rw [List.length_take]; omega)
      have hs1 := hide (sumL_lt (a.take k))
      have hs2 := hide (sumL_lt (b.take k))
      have hs3 := hide (sumL_lt (c.take k))
      have HO0 := hide (fun (B : Nat) W hR hT => of_any (B := B) (v := u8) (l := x3 a b c k) W hR hT)
      rw [HX3.out] at HO0
      have HOA := hide (fun (v : Value) (B : Nat) W hR hT => of_any (B := B) (v := v) (l := a.take k) W hR hT)
      have HOB := hide (fun W hR hT => of_any (B := w.heap.size) (v := .slice ab k cb) (l := b.take k) W hR hT)
      have HOC := hide (fun W hR hT => of_any (B := w.heap.size) (v := .slice ac k cc) (l := c.take k) W hR hT)
      have HOW := hide (fun W hR => own_any (B := w.heap.size) (v := .slice aa k ca) (l := a.take k) W hR HLL.out)
      have HSU := hide (fun w hT => sure_any w hT)
      have HXR := hide hOR
      clear hOR
      generalize sumL (a.take k) = s1 at *
      generalize sumL (b.take k) = s2 at *
      generalize sumL (c.take k) = s3 at *
      have hb := hbr
      clear hbr
      replace HT := hide (HT.out.below hb)
      go_wp2
      refine wp_region_held_drew (S := (fun U => Below wr.heap.size wr U)) (by kernel_rfl) ?_ (fun hHeld => ?_)
      · exact (Below.refl _ wr).drew
      generalize wr.drew = V at hHeld ⊢
      replace hb := below_bl rfl hb hHeld
      replace HXR := hide (HXR.out.bel hHeld).top
      replace HT := hide (HT.out.below hHeld)
      refine wpAnyH_more (S' := fun U => Below V.heap.size V U) (fun U h => hHeld.trans (h.mono hHeld.size)) _ _ _ _ ?_
      clear hHeld
      have hHeld := Below.refl V.heap.size V
      refine wpAnyH_take (i := 0) (oi := ?oi19) (v := u8) ?hi19 (by kernel_rfl) (by kernel_rfl) (by kernel_rfl) ?hQ19 ?hy19 (by assumption) ?rest19
      case hi19 => (simp only [List.getElem?_toArray, List.getElem?_cons_zero]; rfl)
      case hQ19 => exact fun _ _ _ h => h
      case hy19 => exact Or.inl ⟨by rfl, by (intro w hSw; (try dsimp only at hSw); go_simp )⟩
      simp only [Act.put, List.setIfInBounds_toArray, List.set_cons_zero, List.set_cons_succ]
      refine wpAnyH_take (i := 2) (oi := ?oi20) (v := .slice aa a.length ca) ?hi20 (by kernel_rfl) (by kernel_rfl) (by kernel_rfl) ?hQ20 ?hy20 (by assumption) ?rest20
      case hi20 => (simp only [List.getElem?_toArray, List.getElem?_cons_zero, List.getElem?_cons_succ]; rfl)
      case hQ20 => exact fun _ _ _ h => h
      case hy20 => exact Or.inl ⟨by rfl, by (intro w hSw; (try dsimp only at hSw); go_simp )⟩
      simp only [Act.put, List.setIfInBounds_toArray, List.set_cons_zero, List.set_cons_succ]
      refine wpAnyH_take (i := 3) (oi := ?oi21) (v := .int .i64 (k : Nat)) ?hi21 (by kernel_rfl) (by kernel_rfl) (by kernel_rfl) ?hQ21 ?hy21 (by assumption) ?rest21
      case hi21 => (simp only [List.getElem?_toArray, List.getElem?_cons_zero, List.getElem?_cons_succ]; rfl)
      case hQ21 => exact fun _ _ _ h => h
      case hy21 => exact Or.inl ⟨by rfl, by (intro w hSw; (try dsimp only at hSw); go_simp )⟩
      simp only [Act.put, List.setIfInBounds_toArray, List.set_cons_zero, List.set_cons_succ]
      refine wpAnyH_take (i := 4) (oi := ?oi22) (v := .slice aa k ca) ?hi22 (by kernel_rfl) (by kernel_rfl) (by kernel_rfl) ?hQ22 ?hy22 (by assumption) ?rest22
      case hi22 => (simp only [List.getElem?_toArray, List.getElem?_cons_zero, List.getElem?_cons_succ]; rfl)
      case hQ22 => exact fun _ _ _ h => h
      case hy22 => exact Or.inl ⟨by rfl, fun U hU => ex_to HA.out HNA.out und_sl siz_sl rfl rfl U⟩
      simp only [Act.put, List.setIfInBounds_toArray, List.set_cons_zero, List.set_cons_succ]
      refine wpAnyH_take (i := 7) (oi := ?oi23) (v := .slice ab b.length cb) ?hi23 (by kernel_rfl) (by kernel_rfl) (by kernel_rfl) ?hQ23 ?hy23 (by assumption) ?rest23
      case hi23 => (simp only [List.getElem?_toArray, List.getElem?_cons_zero, List.getElem?_cons_succ]; rfl)
      case hQ23 => exact fun _ _ _ h => h
      case hy23 => exact Or.inl ⟨by rfl, by (intro w hSw; (try dsimp only at hSw); go_simp )⟩
      simp only [Act.put, List.setIfInBounds_toArray, List.set_cons_zero, List.set_cons_succ]
      refine wpAnyH_take (i := 8) (oi := ?oi24) (v := .int .i64 (k : Nat)) ?hi24 (by kernel_rfl) (by kernel_rfl) (by kernel_rfl) ?hQ24 ?hy24 (by assumption) ?rest24
      case hi24 => (simp only [List.getElem?_toArray, List.getElem?_cons_zero, List.getElem?_cons_succ]; rfl)
      case hQ24 => exact fun _ _ _ h => h
      case hy24 => exact Or.inl ⟨by rfl, by (intro w hSw; (try dsimp only at hSw); go_simp )⟩
      simp only [Act.put, List.setIfInBounds_toArray, List.set_cons_zero, List.set_cons_succ]
      refine wpAnyH_take (i := 9) (oi := ?oi25) (v := .slice ab k cb) ?hi25 (by kernel_rfl) (by kernel_rfl) (by kernel_rfl) ?hQ25 ?hy25 (by assumption) ?rest25
      case hi25 => (simp only [List.getElem?_toArray, List.getElem?_cons_zero, List.getElem?_cons_succ]; rfl)
      case hQ25 => exact fun _ _ _ h => h
      case hy25 => exact Or.inl ⟨by rfl, fun U hU => ex_to HBB.out HNB.out und_sl siz_sl rfl rfl U⟩
      simp only [Act.put, List.setIfInBounds_toArray, List.set_cons_zero, List.set_cons_succ]
      refine wpAnyH_take (i := 12) (oi := ?oi26) (v := .slice ac c.length cc) ?hi26 (by kernel_rfl) (by kernel_rfl) (by kernel_rfl) ?hQ26 ?hy26 (by assumption) ?rest26
      case hi26 => (simp only [List.getElem?_toArray, List.getElem?_cons_zero, List.getElem?_cons_succ]; rfl)
      case hQ26 => exact fun _ _ _ h => h
      case hy26 => exact Or.inl ⟨by rfl, by (intro w hSw; (try dsimp only at hSw); go_simp )⟩
      simp only [Act.put, List.setIfInBounds_toArray, List.set_cons_zero, List.set_cons_succ]
      refine wpAnyH_take (i := 13) (oi := ?oi27) (v := .int .i64 (k : Nat)) ?hi27 (by kernel_rfl) (by kernel_rfl) (by kernel_rfl) ?hQ27 ?hy27 (by assumption) ?rest27
      case hi27 => (simp only [List.getElem?_toArray, List.getElem?_cons_zero, List.getElem?_cons_succ]; rfl)
      case hQ27 => exact fun _ _ _ h => h
      case hy27 => exact Or.inl ⟨by rfl, by (intro w hSw; (try dsimp only at hSw); go_simp )⟩
      simp only [Act.put, List.setIfInBounds_toArray, List.set_cons_zero, List.set_cons_succ]
      refine wpAnyH_take (i := 14) (oi := ?oi28) (v := .slice ac k cc) ?hi28 (by kernel_rfl) (by kernel_rfl) (by kernel_rfl) ?hQ28 ?hy28 (by assumption) ?rest28
      case hi28 => (simp only [List.getElem?_toArray, List.getElem?_cons_zero, List.getElem?_cons_succ]; rfl)
      case hQ28 => exact fun _ _ _ h => h
      case hy28 => exact Or.inl ⟨by rfl, fun U hU => ex_to HC.out HNC.out und_sl siz_sl rfl rfl U⟩
      simp only [Act.put, List.setIfInBounds_toArray, List.set_cons_zero, List.set_cons_succ]
      refine wpAnyH_ready (rs := [1]) (by kernel_rfl) (by simp) ?_
      refine AllReadyH.cons (o := ?oi29) ?hi29 (fun K hK => ?_) AllReadyH.nil
      case hi29 => (simp only [List.getElem?_toArray, List.getElem?_cons_zero, List.getElem?_cons_succ]; rfl)
      rw [if_pos (by rfl)]
      go_simp
      refine (HO0.out _ _ HXR.out HT.out).mono ?_
      rintro e V1 ⟨rfl, rfl⟩
      go_simp
      refine hK.out _ _ ?_ (fun hHeld => ?_)
      · exact hHeld
      clear hK K
      refine wpAnyH_ready (rs := [5]) (by kernel_rfl) (by simp) ?_
      refine AllReadyH.cons (o := ?oi30) ?hi30 (fun K hK => ?_) AllReadyH.nil
      case hi30 => (simp only [List.getElem?_toArray, List.getElem?_cons_zero, List.getElem?_cons_succ]; rfl)
      rw [if_pos (by rfl)]
      go_simp
      refine (HOW.out _ (HA1.out.bel hb)).mono ?_
      rintro e V2 ⟨v2, rfl, how, hbc⟩
      go_simp
      refine hK.out _ _ ?_ (fun hHeld => ?_)
      · exact hbc
      clear hK K
      clear hHeld
      replace hb := below_bl rfl hb hbc
      replace HT := hide (HT.out.below hbc)
      have HWR := hide how.rd
      clear how
      refine wpAnyH_more (S' := fun U => Below V2.heap.size V2 U) (fun U h => hbc.trans (h.mono hbc.size)) _ _ _ _ ?_
      clear hbc
      have hHeld := Below.refl V2.heap.size V2
      refine wpAnyH_ready (rs := [6]) (by kernel_rfl) (by simp) ?_
      refine AllReadyH.cons (o := ?oi31) ?hi31 (fun K hK => ?_) AllReadyH.nil
      case hi31 => (simp only [List.getElem?_toArray, List.getElem?_cons_zero, List.getElem?_cons_succ]; rfl)
      rw [if_pos (by rfl)]
      go_simp
      refine (HOA.out _ _ _ HWR.out HT.out).mono ?_
      rintro e V3 ⟨rfl, rfl⟩
      go_simp
      refine hK.out _ _ ?_ (fun hHeld => ?_)
      · exact hHeld
      clear hK K
      refine wpAnyH_ready (rs := [10]) (by kernel_rfl) (by simp) ?_
      refine AllReadyH.cons (o := ?oi32) ?hi32 (fun K hK => ?_) AllReadyH.nil
      case hi32 => (simp only [List.getElem?_toArray, List.getElem?_cons_zero, List.getElem?_cons_succ]; rfl)
      rw [if_pos (by rfl)]
      go_simp
      refine (HOB.out _ (HB1.out.bel hb) HT.out).mono ?_
      rintro e V4 ⟨rfl, rfl⟩
      go_simp
      refine hK.out _ _ ?_ (fun hHeld => ?_)
      · exact hHeld
      clear hK K
      refine wpAnyH_take (i := 11) (oi := ?oi33) (v := .int .u32 ((s1 ^^^ s2 : Nat) : Int)) ?hi33 (by kernel_rfl) (by kernel_rfl) (by kernel_rfl) ?hQ33 ?hy33 (by assumption) ?rest33
      case hi33 => (simp only [List.getElem?_toArray, List.getElem?_cons_zero, List.getElem?_cons_succ]; rfl)
      case hQ33 => exact fun _ _ _ h => h
      case hy33 => exact Or.inl ⟨by rfl, fun U hU => ex_xor32 _ _ hs1.out hs2.out rfl rfl U⟩
      simp only [Act.put, List.setIfInBounds_toArray, List.set_cons_zero, List.set_cons_succ]
      refine wpAnyH_ready (rs := [15]) (by kernel_rfl) (by simp) ?_
      refine AllReadyH.cons (o := ?oi34) ?hi34 (fun K hK => ?_) AllReadyH.nil
      case hi34 => (simp only [List.getElem?_toArray, List.getElem?_cons_zero, List.getElem?_cons_succ]; rfl)
      rw [if_pos (by rfl)]
      go_simp
      refine (HOC.out _ (HC1.out.bel hb) HT.out).mono ?_
      rintro e V5 ⟨rfl, rfl⟩
      go_simp
      refine hK.out _ _ ?_ (fun hHeld => ?_)
      · exact hHeld
      clear hK K
      refine wpAnyH_take (i := 16) (oi := ?oi35) (v := .int .u32 ((s1 ^^^ s2 ^^^ s3 : Nat) : Int)) ?hi35 (by kernel_rfl) (by kernel_rfl) (by kernel_rfl) ?hQ35 ?hy35 (by assumption) ?rest35
      case hi35 => (simp only [List.getElem?_toArray, List.getElem?_cons_zero, List.getElem?_cons_succ]; rfl)
      case hQ35 => exact fun _ _ _ h => h
      case hy35 => exact Or.inl ⟨by rfl, fun U hU => ex_xor32 _ _ (xor_lt32 hs1.out hs2.out) hs3.out rfl rfl U⟩
      simp only [Act.put, List.setIfInBounds_toArray, List.set_cons_zero, List.set_cons_succ]
      refine wpAnyH_take (i := 17) (oi := ?oi36) (v := .bool true) ?hi36 (by kernel_rfl) (by kernel_rfl) (by kernel_rfl) ?hQ36 ?hy36 (by assumption) ?rest36
      case hi36 => (simp only [List.getElem?_toArray, List.getElem?_cons_zero, List.getElem?_cons_succ]; rfl)
      case hQ36 => exact fun _ _ _ h => h
      case hy36 => exact Or.inl ⟨by rfl, by (intro w hSw; go_simp)⟩
      simp only [Act.put, List.setIfInBounds_toArray, List.set_cons_zero, List.set_cons_succ]
      refine wpAnyH_take (i := 18) (oi := ?oi37) (v := .bool true) ?hi37 (by kernel_rfl) (by kernel_rfl) (by kernel_rfl) ?hQ37 ?hy37 (by assumption) ?rest37
      case hi37 => (simp only [List.getElem?_toArray, List.getElem?_cons_zero, List.getElem?_cons_succ]; rfl)
      case hQ37 => exact fun _ _ _ h => h
      case hy37 => exact Or.inl ⟨by rfl, by (intro w hSw; (try dsimp only at hSw); go_simp )⟩
      simp only [Act.put, List.setIfInBounds_toArray, List.set_cons_zero, List.set_cons_succ]
      refine wpAnyH_ready (rs := [19]) (by kernel_rfl) (by simp) ?_
      refine AllReadyH.cons (o := ?oi38) ?hi38 (fun K hK => ?_) AllReadyH.nil
      case hi38 => (simp only [List.getElem?_toArray, List.getElem?_cons_zero, List.getElem?_cons_succ]; rfl)
      rw [if_pos (by rfl)]
      go_simp
      refine (HSU.out _ HT.out).mono ?_
      rintro e V6 ⟨rfl, hbc⟩
      go_simp
      refine hK.out _ _ ?_ (fun hHeld => ?_)
      · exact hbc
      clear hK K
      clear hHeld
      replace hb := below_bl rfl hb hbc
      refine wpAnyH_more (S' := fun U => Below V6.heap.size V6 U) (fun U h => hbc.trans (h.mono hbc.size)) _ _ _ _ ?_
      clear hbc
      have hHeld := Below.refl V6.heap.size V6
      refine wpAnyH_take (i := 20) (oi := ?oi39) (v := .bool true) ?hi39 (by kernel_rfl) (by kernel_rfl) (by kernel_rfl) ?hQ39 ?hy39 (by assumption) ?rest39
      case hi39 => (simp only [List.getElem?_toArray, List.getElem?_cons_zero, List.getElem?_cons_succ]; rfl)
      case hQ39 => exact fun _ _ _ h => h
      case hy39 => exact Or.inl ⟨by rfl, by (intro w hSw; (try dsimp only at hSw); go_simp )⟩
      simp only [Act.put, List.setIfInBounds_toArray, List.set_cons_zero, List.set_cons_succ]
      refine wpAnyH_take (i := 21) (oi := ?oi40) (v := .bool true) ?hi40 (by kernel_rfl) (by kernel_rfl) (by kernel_rfl) ?hQ40 ?hy40 (by assumption) ?rest40
      case hi40 => (simp only [List.getElem?_toArray, List.getElem?_cons_zero, List.getElem?_cons_succ]; rfl)
      case hQ40 => exact fun _ _ _ h => h
      case hy40 => exact Or.inl ⟨by rfl, by (intro w hSw; (try dsimp only at hSw); go_simp )⟩
      simp only [Act.put, List.setIfInBounds_toArray, List.set_cons_zero, List.set_cons_succ]
      refine wpAnyH_done (by kernel_rfl) ?_ _
      clear hHeld
      go_wp2
      go_ret
      exact ⟨rfl, hb⟩
end Go.Proofs.YtnokcfaipbolkaaDoor
