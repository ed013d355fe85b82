/-
  The document's Store.
-/
import Derived.Test.YtalcgipcephnnaaDoorJMeRef2
namespace Go.Proofs.YtalcgipcephnnaaDoor
open Go.RowKit
set_option linter.unusedVariables false
attribute [local go_sem ↓] Go.wp_at_zero Go.wp_at_succ

/-- Bytes with others written over them from a place on. -/
def wroteF (f : Nat → Nat) (a : Nat) (l : List Nat) : Nat → Nat := fun x => if a ≤ x ∧ x < a + l.length then (l[x - a]?).getD 0 else f x
theorem wroteF_lt {f : Nat → Nat} (hf : ∀ x, f x < 256) (a : Nat) {l : List Nat} (hl : ∀ y, y ∈ l → y < 256) (x : Nat) : wroteF f a l x < 256 := by
  unfold wroteF
  split
  · cases hx : l[x - a]? with
    | none => decide
    | some y => exact hl y (List.mem_of_getElem? hx)
  · exact hf x
theorem numB_small (v k : Nat) : ∀ y, y ∈ numB v k → y < 256 := by
  intro y hy
  obtain ⟨j, _, rfl⟩ := List.mem_map.1 hy
  exact Nat.mod_lt _ (by decide)
theorem numB_len (v k : Nat) : (numB v k).length = k := by simp [numB]
def bytesL (f : Nat → Nat) (N : Nat) : List UInt8 := (List.range N).map fun j => UInt8.ofNat (f j)
theorem bytesL_len (f : Nat → Nat) (N : Nat) : (bytesL f N).length = N := by simp [bytesL]
theorem bytesL_at {f : Nat → Nat} {N j : Nat} (h : j < N) : (bytesL f N)[j]? = some (UInt8.ofNat (f j)) := by
  unfold bytesL; rw [List.getElem?_map, List.getElem?_range h]; rfl
theorem withTo_at (l : List UInt8) (a v : Nat) : ∀ k j, a + k ≤ l.length → (withTo l a v k)[j]? = if a ≤ j ∧ j < a + k then some (UInt8.ofNat (v / 256 ^ (j - a) % 256)) else l[j]?
  | 0, j, _ => by rw [if_neg (by omega)]; rfl
  | k + 1, j, h => by
    have ih := withTo_at l a v k j (by omega)
    have hl := withTo_length l a v k
    rw [withTo, List.getElem?_set]
    by_cases hj : a + k = j
    · subst hj
      rw [if_pos rfl, if_pos (by omega), if_pos (by omega), show a + k - a = k by omega]
    · rw [if_neg hj, ih]
      by_cases h2 : a ≤ j ∧ j < a + k
      · rw [if_pos h2, if_pos (by omega)]
      · rw [if_neg h2, if_neg (by omega)]
theorem numB_at {v k j : Nat} (h : j < k) : ((numB v k)[j]?).getD 0 = v / 256 ^ j % 256 := by
  unfold numB; rw [List.getElem?_map, List.getElem?_range h]; rfl
theorem with_cells {f : Nat → Nat} (hf : ∀ x, f x < 256) {N a v k j : Nat} (hk : a + k ≤ N) (hj : j < N) : (cellsB (withTo (bytesL f N) a v k))[j]? = some (.int .u8 (wroteF f a (numB v k) j : Nat)) := by
  unfold cellsB wroteF
  rw [List.getElem?_map, withTo_at _ _ _ _ _ (by rw [bytesL_len]; exact hk), numB_len]
  by_cases h : a ≤ j ∧ j < a + k
  · rw [if_pos h, if_pos h, numB_at (by omega)]
    show some (Value.int .u8 (((UInt8.ofNat (v / 256 ^ (j - a) % 256)).toNat : Nat) : Int)) = _
    rw [UInt8.toNat_ofNat', Nat.mod_mod_of_dvd _ (by decide)]
  · rw [if_neg h, if_neg h, bytesL_at hj]
    show some (Value.int .u8 (((UInt8.ofNat (f j)).toNat : Nat) : Int)) = _
    rw [UInt8.toNat_ofNat', Nat.mod_eq_of_lt (hf j)]
theorem bytes_src {w : World} {g N : Nat} {f : Nat → Nat} (hf : ∀ x, f x < 256) (h : HoldsAt w g N 5 (fun x => .int .u8 (f x : Nat))) (j : Nat) (u : Value) (hu : (cellsB (bytesL f N))[j]? = some u) : w.cell? ⟨g, 0 + j, none⟩ = some u := by
  have hj : j < N := by
    have := (List.getElem?_eq_some_iff.1 hu).1
    rwa [cellsB_length, bytesL_len] at this
  rw [Nat.zero_add, h.cell hj, ← hu]
  unfold cellsB
  rw [List.getElem?_map, bytesL_at hj]
  show some (Value.int .u8 ((f j : Nat) : Int)) = some (Value.int .u8 (((UInt8.ofNat (f j)).toNat : Nat) : Int))
  rw [UInt8.toNat_ofNat', Nat.mod_eq_of_lt (hf j)]
theorem rwith_ok {w : World} {N n : Nat} {f : Nat → Nat} {r : RP} (h : RefAt w N n f r) (a k : Nat) (hk : k = 1 ∨ k = 2 ∨ k = 4) (hal : a % k = 0) (hin : a + k ≤ N) (v : Nat) (hv : v < 4294967296) :
    Calls Tryd.prog 59 #[.slice (some ⟨r.gB, 0, none⟩) N r.cB, .int .i64 a, .int .i64 k, .int .u32 v] w fun e w' => ∃ g c, e = .returned (.tuple #[.slice (some ⟨g, 0, none⟩) N c, .int .i64 0]) ∧
      HoldsAt w' g N 5 (fun x => .int .u8 (wroteF f a (numB v k) x : Nat)) ∧ w.heap.size ≤ g ∧ N ≤ c ∧ c ≤ maxLen ∧ Below w.heap.size w w' := by
  have hN9 : N ≤ 67108864 := by have := h.few; omega
  have hN0 : 0 < N := by omega
  have hw := refwith_ok r.gB 0 r.cB (bytesL f N) a k hk hal (by rw [bytesL_len]; exact hin) (by rw [bytesL_len]; omega) v hv w (fun j u hu => bytes_src h.small h.bytes j u hu) h.bytes.lt
  rw [bytesL_len] at hw
  refine hw.mono ?_
  rintro e w' ⟨g, c, rfl, hO, hB⟩
  obtain ⟨g', c', e', hH, h3, h4, h5⟩ := holds_of_own hO hN0 (fun j hj => with_cells h.small hin hj)
  cases e'
  exact ⟨g, c, rfl, hH, h3, h4, h5, hB⟩
set_option maxHeartbeats 1000000 in
theorem rstore_bad {w : World} {N n : Nat} {f : Nat → Nat} {r : RP} (h : RefAt w N n f r) (a : Nat) (ha : a < 4294967296) (k : Int) (v : Int) (hc : codeN N a k ≠ 0) :
    Calls Tryd.prog 33 #[.agg (r.v N n), .int .u32 a, .int .i64 k, .int .u32 v] w fun e w' => e = .returned (.tuple #[.agg (r.v N n), .int .i64 (codeN N a k)]) ∧ Below w.heap.size w w' := by
  have hN9 : N ≤ 67108864 := by have := h.few; omega
  have HW := hide (fun W => refwith_bad (some ⟨r.gB, 0, none⟩) N r.cB (by omega) a k hc v W)
  have hb0 : (codeN N a k != 0) = true := by rw [bne_iff_ne]; exact hc
  clear h hc
  generalize codeN N a k = z at *
  go_enter Tryd.func33, Tryd.ntmps33
  go_wp2_with (first | ((with_reducible refine bx_R w.heap.size r N n ?_ ?_ ?_); exact rfl; exact rfl; intro W hr hb hz0) | ((with_reducible refine al_R (w.heap.size + 1) ?_ ?_); exact hz0.out; intro W hq hb' hz'; replace hr := hr.bl (hz0.out ▸ hb'); replace hb := hb.trans (hb'.mono (by omega)); replace hz0 := hz') | ((with_reducible refine ld_B w.heap.size _ N n hr ?_ ?_); exact rfl) | (go_at_call 59; refine (HW.out _).mono ?_; rintro e W ⟨rfl, rfl⟩) | ((with_reducible refine ld_R w.heap.size _ N n hr ?_ ?_); exact rfl) | ((with_reducible refine st_R (w.heap.size + 1) _ r N n hq ?_ ?_ ?_ ?_); exact rfl; exact rfl; exact rfl; intro W hnew ho; replace hr := hr.only ho (by omega); replace hq := hnew; replace hb := ho.bel _ _ (by omega) hb))
  refine bodyPost_ret (results_cell_tmp_row Tryd.results33 _ _ (w.heap.size + 1) _ _ _ _ rfl hq Tryd.underlying46 rfl size_R) rfl ?_
  exact ⟨rfl, hb⟩
set_option maxHeartbeats 1000000 in
theorem rstore_ok {w : World} {N n : Nat} {f : Nat → Nat} {r : RP} (h : RefAt w N n f r) (a k : Nat) (ha : a < 4294967296) (hk : k = 1 ∨ k = 2 ∨ k = 4) (hal : a % k = 0) (hin : a + k ≤ N) (v : Nat) (hv : v < 4294967296) :
    Calls Tryd.prog 33 #[.agg (r.v N n), .int .u32 a, .int .i64 k, .int .u32 v] w fun e w' => (∃ r' : RP, e = .returned (.tuple #[.agg (r'.v N n), .int .i64 0]) ∧ RefAt w' N n (wroteF f a (numB v k)) r' ∧ ∀ x, r'.owns x → w.heap.size ≤ x) ∧ Below w.heap.size w w' := by
  have hN9 : N ≤ 67108864 := by have := h.few; omega
  have HRef := hide h
  have HW : Hid (∀ W, Below w.heap.size w W → Calls Tryd.prog 59 #[.slice (some ⟨r.gB, 0, none⟩) N r.cB, .int .i64 a, .int .i64 k, .int .u32 v] W fun e w' => ∃ g c, e = .returned (.tuple #[.slice (some ⟨g, 0, none⟩) N c, .int .i64 0]) ∧
      HoldsAt w' g N 5 (fun x => .int .u8 (wroteF f a (numB v k) x : Nat)) ∧ W.heap.size ≤ g ∧ N ≤ c ∧ c ≤ maxLen ∧ Below W.heap.size W w') := hide (fun W hb => rwith_ok (h.bl hb) a k hk hal hin v hv)
  have HM : Hid (∀ W r' f', RefAt W N n f' r' → Calls Tryd.prog 60 #[.agg (r'.v N n), .int .i64 a, .int .i64 k] W fun e w' => (∃ g c : Nat, e = .returned (.agg (({ r' with gD := g, cD := c } : RP).v N n)) ∧ RefAt w' N n f' { r' with gD := g, cD := c } ∧ W.heap.size ≤ g) ∧ Below W.heap.size W w') := hide (fun W r' f' hr => mark_any hr a k (by omega) hin)
  have HF : Hid (∀ x, wroteF f a (numB v k) x < 256) := hide (wroteF_lt h.small a (numB_small v k))
  clear h hk hal hin
  generalize wroteF f a (numB v k) = f' at *
  go_enter Tryd.func33, Tryd.ntmps33
  go_wp2_with (first | ((with_reducible refine bx_R w.heap.size r N n ?_ ?_ ?_); exact rfl; exact rfl; intro W hr hb hz0) | ((with_reducible refine al_R (w.heap.size + 1) ?_ ?_); exact hz0.out; intro W hq hb' hz'; replace hr := hr.bl (hz0.out ▸ hb'); replace hb := hb.trans (hb'.mono (by omega)); replace hz0 := hz') | ((with_reducible refine ld_B w.heap.size _ N n hr ?_ ?_); exact rfl) | (go_at_call 59; refine (HW.out _ hb).mono ?_; rintro e W ⟨g, c, rfl, hx1, hx2, hx3, hx4, hx5⟩; replace hr := hr.bl hx5; replace hq := hq.bl hx5; have hgw : w.heap.size ≤ g := Nat.le_trans hb.size hx2; replace hb := below_bl rfl hb hx5; have hgl := hide (Nat.lt_of_lt_of_le (Nat.lt_succ_self _) (hz0.out ▸ hx2 : w.heap.size + 1 + 1 ≤ g)); have H1 := hide hx1; have H3 := hide hx3; have H4 := hide hx4; clear hx1 hx2 hx3 hx4 hx5) | ((with_reducible refine st_B w.heap.size r N n g c hr ?_ ?_ ?_); exact rfl; exact rfl; intro W hnew ho; replace hq := hq.only ho (by omega); replace hr := hnew; replace hb := ho.bel _ _ (by omega) hb; replace H1 := hide (H1.out.of_heap (ho.row g (by have := hgl.out; omega)))) | ((with_reducible refine ld_W w.heap.size _ N n hr ?_ ?_); exact rfl) | ((with_reducible refine st_W w.heap.size _ N n (wrap64 (r.wr + 1)) hr ?_ ?_ ?_); exact rfl; exact rfl; intro W hnew ho; replace hq := hq.only ho (by omega); replace hr := hnew; replace hb := ho.bel _ _ (by omega) hb; replace H1 := hide (H1.out.of_heap (ho.row g (by have := hgl.out; omega)))) | ((with_reducible refine ld_R w.heap.size _ N n hr ?_ ?_); exact rfl) | (go_at_call 60; refine (HM.out _ ⟨g, c, r.gD, r.cD, wrap64 (r.wr + 1)⟩ f' ⟨H1.out, (HRef.out.bl hb).marks, HF.out, ⟨H3.out, H4.out⟩, HRef.out.capD, HRef.out.few⟩).mono ?_; rintro e W ⟨⟨g2, c2, rfl, hRf, hg2⟩, hx5⟩; have HG2 : Hid (w.heap.size + 1 < g2) := hide (Nat.lt_of_lt_of_le hq.lt hg2); replace hr := hr.bl hx5; replace hq := hq.bl hx5; have hg3 : w.heap.size ≤ g2 := Nat.le_trans hb.size hg2; replace hb := below_bl rfl hb hx5; have HRf := hide hRf; clear hRf hg2 hx5) | ((with_reducible refine st_R (w.heap.size + 1) _ ⟨g, c, g2, c2, wrap64 (r.wr + 1)⟩ N n hq ?_ ?_ ?_ ?_); exact rfl; exact rfl; exact rfl; intro W hnew ho; replace hr := hr.only ho (by omega); have hqn := hide hq.lt; replace hq := hnew; replace hb := ho.bel _ _ (by omega) hb; replace HRf := hide (HRf.out.same (fun x hx => ho.row x (by (have e1 := hgl.out; have e2 := HG2.out; rcases hx with rfl | rfl <;> omega))))))
  refine bodyPost_ret (results_cell_tmp_row Tryd.results33 _ _ (w.heap.size + 1) _ _ _ _ rfl hq Tryd.underlying46 rfl size_R) rfl ?_
  exact ⟨⟨_, rfl, HRf.out, fun x hx => by rcases hx with rfl | rfl <;> assumption⟩, hb⟩
end Go.Proofs.YtalcgipcephnnaaDoor
