/-
  The document's Write.
-/
import Derived.Test.YtalcgipcephnnaaDoorJMeRef3
import Derived.Deep.CutRange
namespace Go.Proofs.YtalcgipcephnnaaDoor
open Go.RowKit
set_option linter.unusedVariables false
attribute [local go_sem ↓] Go.wp_at_zero Go.wp_at_succ

set_option maxHeartbeats 1000000 in
theorem rwrite_far {w : World} {N n : Nat} {f : Nat → Nat} {r : RP} (h : RefAt w N n f r) (a : Nat) (ha : a < 4294967296) (sa : Option Addr) (L sc : Nat) (hL : L ≤ 1000000) (hf : N < a + L) :
    Calls Tryd.prog 40 #[.agg (r.v N n), .int .u32 a, .slice sa L sc] w fun e w' => e = .returned (.tuple #[.agg (r.v N n), .int .i64 4]) ∧ Below w.heap.size w w' := by
  have hN9 : N ≤ 67108864 := by have := h.few; omega
  clear h
  by_cases h1 : N < L
  · have t1 : decide ((N : Int) < (L : Int)) = true := decide_eq_true (by omega)
    have t1' : decide (N < L) = true := decide_eq_true (by omega)
    go_enter Tryd.func40, Tryd.ntmps40
    go_wp2_with (first | ((with_reducible refine bx_R w.heap.size r N n ?_ ?_ ?_); exact rfl; exact rfl; intro W hr hb hz0) | ((with_reducible refine al_R (w.heap.size + 1) ?_ ?_); exact hz0.out; intro W hq hb' hz'; replace hr := hr.bl (hz0.out ▸ hb'); replace hb := hb.trans (hb'.mono (by omega)); replace hz0 := hz'; have fB : W.cell? ⟨w.heap.size, 0, none⟩ = some (.slice (some ⟨r.gB, 0, none⟩) N r.cB) := hr.cell 0; have fD : W.cell? ⟨w.heap.size, 1, none⟩ = some (.slice (some ⟨r.gD, 0, none⟩) n r.cD) := hr.cell 1) | ((with_reducible refine ld_B w.heap.size _ N n hr ?_ ?_); exact rfl) | ((with_reducible refine ld_R w.heap.size _ N n hr ?_ ?_); exact rfl) | ((with_reducible refine st_R (w.heap.size + 1) _ r N n hq ?_ ?_ ?_ ?_); exact rfl; exact rfl; exact rfl; intro W hnew ho; replace hr := hr.only ho (by omega); replace hq := hnew; replace hb := ho.bel _ _ (by omega) hb))
    refine bodyPost_ret (results_cell_tmp_row Tryd.results40 _ _ (w.heap.size + 1) _ _ _ _ rfl hq Tryd.underlying46 rfl size_R) rfl ?_
    exact ⟨rfl, hb⟩
  · have t1 : decide ((N : Int) < (L : Int)) = false := decide_eq_false (by omega)
    have t1' : decide (N < L) = false := decide_eq_false (by omega)
    have t2 : decide ((N : Int) - (L : Int) < (a : Int)) = true := decide_eq_true (by omega)
    go_enter Tryd.func40, Tryd.ntmps40
    go_wp2_with (first | ((with_reducible refine bx_R w.heap.size r N n ?_ ?_ ?_); exact rfl; exact rfl; intro W hr hb hz0) | ((with_reducible refine al_R (w.heap.size + 1) ?_ ?_); exact hz0.out; intro W hq hb' hz'; replace hr := hr.bl (hz0.out ▸ hb'); replace hb := hb.trans (hb'.mono (by omega)); replace hz0 := hz'; have fB : W.cell? ⟨w.heap.size, 0, none⟩ = some (.slice (some ⟨r.gB, 0, none⟩) N r.cB) := hr.cell 0; have fD : W.cell? ⟨w.heap.size, 1, none⟩ = some (.slice (some ⟨r.gD, 0, none⟩) n r.cD) := hr.cell 1) | ((with_reducible refine ld_B w.heap.size _ N n hr ?_ ?_); exact rfl) | ((with_reducible refine ld_R w.heap.size _ N n hr ?_ ?_); exact rfl) | ((with_reducible refine st_R (w.heap.size + 1) _ r N n hq ?_ ?_ ?_ ?_); exact rfl; exact rfl; exact rfl; intro W hnew ho; replace hr := hr.only ho (by omega); replace hq := hnew; replace hb := ho.bel _ _ (by omega) hb))
    refine bodyPost_ret (results_cell_tmp_row Tryd.results40 _ _ (w.heap.size + 1) _ _ _ _ rfl hq Tryd.underlying46 rfl size_R) rfl ?_
    exact ⟨rfl, hb⟩
set_option maxHeartbeats 1000000 in
theorem rwrite_none {w : World} {N n : Nat} {f : Nat → Nat} {r : RP} (h : RefAt w N n f r) (a : Nat) (ha : a < 4294967296) (sa : Option Addr) (sc : Nat) (hf : a ≤ N) :
    Calls Tryd.prog 40 #[.agg (r.v N n), .int .u32 a, .slice sa 0 sc] w fun e w' => e = .returned (.tuple #[.agg (r.v N n), .int .i64 0]) ∧ Below w.heap.size w w' := by
  have hN9 : N ≤ 67108864 := by have := h.few; omega
  have t1 : decide ((N : Int) < 0) = false := decide_eq_false (by omega)
  have t2 : decide ((N : Int) < (a : Int)) = false := decide_eq_false (by omega)
  have t3 : decide (N < a) = false := decide_eq_false (by omega)
  clear h
  go_enter Tryd.func40, Tryd.ntmps40
  go_wp2_with (first | ((with_reducible refine bx_R w.heap.size r N n ?_ ?_ ?_); exact rfl; exact rfl; intro W hr hb hz0) | ((with_reducible refine al_R (w.heap.size + 1) ?_ ?_); exact hz0.out; intro W hq hb' hz'; replace hr := hr.bl (hz0.out ▸ hb'); replace hb := hb.trans (hb'.mono (by omega)); replace hz0 := hz'; have fB : W.cell? ⟨w.heap.size, 0, none⟩ = some (.slice (some ⟨r.gB, 0, none⟩) N r.cB) := hr.cell 0; have fD : W.cell? ⟨w.heap.size, 1, none⟩ = some (.slice (some ⟨r.gD, 0, none⟩) n r.cD) := hr.cell 1) | ((with_reducible refine ld_B w.heap.size _ N n hr ?_ ?_); exact rfl) | ((with_reducible refine ld_R w.heap.size _ N n hr ?_ ?_); exact rfl) | ((with_reducible refine st_R (w.heap.size + 1) _ r N n hq ?_ ?_ ?_ ?_); exact rfl; exact rfl; exact rfl; intro W hnew ho; replace hr := hr.only ho (by omega); replace hq := hnew; replace hb := ho.bel _ _ (by omega) hb))
  refine bodyPost_ret (results_cell_tmp_row Tryd.results40 _ _ (w.heap.size + 1) _ _ _ _ rfl hq Tryd.underlying46 rfl size_R) rfl ?_
  exact ⟨rfl, hb⟩
theorem RP.ne {r : RP} {x b : Nat} (hx : r.owns x) (h1 : r.gB ≠ b) (h2 : r.gD ≠ b) : x ≠ b := by
  rcases hx with rfl | rfl
  · exact h1
  · exact h2
theorem cut_at {f : Nat → Nat} {N o m : Nat} (h : o + m ≤ N) (j : Nat) (hj : j < m) : (((List.range m).map fun i => f (o + i)))[j]? = some (f (o + j)) := by
  rw [List.getElem?_map, List.getElem?_range hj]; rfl
/-- Some bytes of a row, as values. -/
def rowB (f : Nat → Nat) (o m : Nat) : List Value := byteV ((List.range m).map fun i => f (o + i))
theorem rowB_len (f : Nat → Nat) (o m : Nat) : (rowB f o m).length = m := by simp [rowB, byteV]
theorem rowB_at {f : Nat → Nat} {o m j : Nat} (h : j < m) : (rowB f o m)[j]? = some (.int .u8 (f (o + j) : Nat)) := by
  unfold rowB byteV
  rw [List.getElem?_map, List.getElem?_map, List.getElem?_range h]; rfl
theorem byteV_one (l : List Nat) : ∀ u ∈ byteV l, u.oneCell' = true := fun u hu => by
  simp only [byteV, List.mem_map] at hu
  obtain ⟨x, _, rfl⟩ := hu
  rfl
theorem byteV_len (l : List Nat) : (byteV l).length = l.length := by simp [byteV]
theorem byteV_at {l : List Nat} {j : Nat} (h : j < l.length) : (byteV l)[j]? = some (.int .u8 ((l[j]?).getD 0 : Nat)) := by
  unfold byteV; rw [List.getElem?_map, List.getElem?_eq_getElem h]; rfl
theorem rowB_src {W : World} {g N o m : Nat} {f : Nat → Nat} (h : HoldsAt W g N 5 (fun x => .int .u8 (f x : Nat))) (p : Nat) (hp : p = o ∨ m = 0) (hm : o + m ≤ N) (j : Nat) (u : Value) (hu : (rowB f o m)[j]? = some u) : W.cell? ((⟨g, p, none⟩ : Addr).add j) = some u := by
  have hj : j < m := by have := (List.getElem?_eq_some_iff.1 hu).1; rwa [rowB_len] at this
  have hpo : p = o := by omega
  subst hpo
  rw [Addr.add_lit, h.cell (j := p + j) (by omega), ← hu, rowB_at hj]
theorem three_at {f : Nat → Nat} {N a : Nat} {l : List Nat} (h : a + l.length ≤ N) (j : Nat) (hj : j < N) : (rowB f 0 a ++ byteV l ++ rowB f (a + l.length) (N - (a + l.length)))[j]? = some (.int .u8 (wroteF f a l j : Nat)) := by
  unfold wroteF
  by_cases h1 : j < a
  · rw [List.append_assoc, List.getElem?_append_left (by rw [rowB_len]; exact h1), rowB_at h1, if_neg (by omega), Nat.zero_add]
  · by_cases h2 : j < a + l.length
    · rw [List.getElem?_append_left (by rw [List.length_append, rowB_len, byteV_len]; exact h2), List.getElem?_append_right (by rw [rowB_len]; omega), rowB_len, byteV_at (by omega), if_pos (by omega)]
    · rw [List.getElem?_append_right (by rw [List.length_append, rowB_len, byteV_len]; omega), List.length_append, rowB_len, byteV_len, rowB_at (by omega), if_neg (by omega), show a + l.length + (j - (a + l.length)) = j by omega]

set_option maxHeartbeats 2000000 in
theorem rwrite_ok {w : World} {N n : Nat} {f : Nat → Nat} {r : RP} (h : RefAt w N n f r) (a : Nat) (ha : a < 4294967296) (l : List Nat) (hl : ∀ y, y ∈ l → y < 256) (L : Nat) (hlL : l.length = L) (h0 : 0 < L) (hin : a + L ≤ N) (sb so sc : Nat) (hsc : L ≤ sc) (hsc2 : sc ≤ maxLen)
    (hsrc : ∀ j v, (byteV l)[j]? = some v → w.cell? ⟨sb, so + j, none⟩ = some v) (hsl : sb < w.heap.size) :
    Calls Tryd.prog 40 #[.agg (r.v N n), .int .u32 a, .slice (some ⟨sb, so, none⟩) L sc] w fun e w' => (∃ r' : RP, e = .returned (.tuple #[.agg (r'.v N n), .int .i64 0]) ∧ RefAt w' N n (wroteF f a l) r' ∧ ∀ x, r'.owns x → w.heap.size ≤ x) ∧ Below w.heap.size w w' := by
  have hN9 : N ≤ 67108864 := by have := h.few; omega
  have HRef := hide h
  have HBl := hide h.bytes.lt
  have hc1 := h.capB.1
  have hc2 := h.capB.2
  unfold maxLen at hc2 hsc2
  have HM : Hid (∀ W r' f', RefAt W N n f' r' → Calls Tryd.prog 60 #[.agg (r'.v N n), .int .i64 a, .int .i64 L] W fun e w' => (∃ g c : Nat, e = .returned (.agg (({ r' with gD := g, cD := c } : RP).v N n)) ∧ RefAt w' N n f' { r' with gD := g, cD := c } ∧ W.heap.size ≤ g) ∧ Below W.heap.size W w') := hide (fun W r' f' hr => mark_any hr a L h0 hin)
  have HS := hide hsrc
  have HL := hide hlL
  have HLl := hide hl
  have t1 : decide ((N : Int) < (L : Int)) = false := decide_eq_false (by omega)
  have t1' : decide (N < L) = false := decide_eq_false (by omega)
  have t2 : decide ((N : Int) - (L : Int) < (a : Int)) = false := decide_eq_false (by omega)
  have t3 : ((L : Int) == 0) = false := by simp; omega
  clear h hsrc hlL hl
  go_enter Tryd.func40, Tryd.ntmps40
  go_upto_region 7 with (first | ((with_reducible refine bx_R w.heap.size r N n ?_ ?_ ?_); exact rfl; exact rfl; intro W hr hb hz0) | ((with_reducible refine al_R (w.heap.size + 1) ?_ ?_); exact hz0.out; intro W hq hb' hz'; replace hr := hr.bl (hz0.out ▸ hb'); replace hb := hb.trans (hb'.mono (by omega)); replace hz0 := hz'; have fB : W.cell? ⟨w.heap.size, 0, none⟩ = some (.slice (some ⟨r.gB, 0, none⟩) N r.cB) := hr.cell 0; have fD : W.cell? ⟨w.heap.size, 1, none⟩ = some (.slice (some ⟨r.gD, 0, none⟩) n r.cD) := hr.cell 1) | ((with_reducible refine ld_B w.heap.size _ N n hr ?_ ?_); exact rfl) | ((with_reducible refine ld_R w.heap.size _ N n hr ?_ ?_); exact rfl) | (go_at_call 60; refine (HM.out _ r f (HRef.out.bl hb)).mono ?_; rintro e W ⟨⟨g2, c2, rfl, hRf, hg2⟩, hx5⟩; have HG2 : Hid (w.heap.size + 1 < g2) := hide (Nat.lt_of_lt_of_le hq.lt hg2); replace hr := hr.bl hx5; replace hq := hq.bl hx5; have hg3 : w.heap.size ≤ g2 := Nat.le_trans hb.size hg2; replace hb := below_bl rfl hb hx5; have HRf := hide hRf; clear hRf hg2 hx5) | ((with_reducible refine st_R w.heap.size _ ⟨r.gB, r.cB, g2, c2, r.wr⟩ N n hr ?_ ?_ ?_ ?_); exact rfl; exact rfl; exact rfl; intro W hnew ho; replace hq := hq.only ho (by omega); replace hr := hnew; replace hb := ho.bel _ _ (by omega) hb; replace HRf := hide (HRf.out.same (fun x hx => ho.row x (RP.ne hx (by (show r.gB ≠ _; have e2 := HBl.out; omega)) (by (show g2 ≠ _; have e1 := HG2.out; omega)))))))
  obtain ⟨X, hX⟩ : ∃ X, W.drew = X := ⟨_, rfl⟩
  have eX : X.heap.size = W.heap.size := by rw [← hX]; rfl
  have bX : Below W.heap.size W X := by rw [← hX]; exact (Below.refl _ W).drew
  have fX : HoldsAt X r.gB N 5 (fun x => .int .u8 (f x : Nat)) := HRf.out.bytes.bl bX
  have hbs := hb.size
  obtain ⟨v1, G1, A1, O1, B1⟩ := app_bytes X W.heap.size (.slice none 0 0) 0 [] (World.ownsRow_nil _ _ _ _) ⟨r.gB, 0, none⟩ a r.cB (rowB f 0 a) (rowB_len _ _ _) (rowB_src fX 0 (.inl rfl) (by omega)) (byteV_one _) (by omega) (by omega)
  have b1 : Below W.heap.size X G1 := grown_below B1 (by omega) (fun k e => by cases e)
  have bW1 : Below W.heap.size W G1 := bX.trans b1
  rw [Nat.zero_add, List.nil_append] at O1
  obtain ⟨v2, G2, A2, O2, B2⟩ := app_bytes G1 W.heap.size v1 a _ O1 ⟨sb, so, none⟩ L sc (byteV l) (by rw [byteV_len]; exact HL.out) (fun j u hu => by rw [Addr.add_lit]; exact ((hb.trans (bW1.mono hbs)).cell (p := ⟨sb, so + j, none⟩) hsl).trans (HS.out j u hu)) (byteV_one _) (by omega) bW1.size
  have b2 : Below W.heap.size G1 G2 := grown_below B2 bW1.size (fun k e => own_block_ge O1 k e)
  have bW2 : Below W.heap.size W G2 := bW1.trans b2
  obtain ⟨p, hp⟩ : ∃ p, p = if r.cB = a + L then 0 else a + L := ⟨_, rfl⟩
  obtain ⟨v3, G3, A3, O3, B3⟩ := app_bytes G2 W.heap.size v2 (a + L) _ O2 ⟨r.gB, p, none⟩ (N - (a + L)) (r.cB - (a + L)) (rowB f (a + L) (N - (a + L))) (rowB_len _ _ _) (rowB_src (HRf.out.bytes.bl bW2) p (by rw [hp]; split <;> omega) (by omega)) (byteV_one _) (by omega) bW2.size
  have b3 : Below W.heap.size G2 G3 := grown_below B3 bW2.size (fun k e => own_block_ge O2 k e)
  have bW3 : Below W.heap.size W G3 := bW2.trans b3
  rw [show a + L + (N - (a + L)) = N by omega] at O3
  obtain ⟨g4, c4, rfl, hH4, hg4, hc4, hc5⟩ := holds_of_own O3 (by omega) (fun j hj => by have := three_at (f := f) (a := a) (l := l) (N := N) (by rw [HL.out]; exact hin) j hj; rw [HL.out] at this; exact this)
  have HA1 := hide A1
  have HA2 := hide A2
  have HA3 := hide A3
  have HH4 := hide hH4
  have HG4 : Hid (w.heap.size + 1 < g4) := hide (Nat.lt_of_lt_of_le hq.lt hg4)
  have hrG := hr.bl bW3
  have hqG := hq.bl bW3
  have hbG := hb.trans (bW3.mono hbs)
  have HRf2 := hide (HRf.out.bl bW3)
  have k0 : W.cell? ⟨w.heap.size, 0, none⟩ = some (.slice (some ⟨r.gB, 0, none⟩) N r.cB) := hr.cell 0
  have k1 : G1.cell? ⟨w.heap.size, 0, none⟩ = some (.slice (some ⟨r.gB, 0, none⟩) N r.cB) := (hr.bl bW1).cell 0
  have k2 : G2.cell? ⟨w.heap.size, 0, none⟩ = some (.slice (some ⟨r.gB, 0, none⟩) N r.cB) := (hr.bl bW2).cell 0
  have k3 : G3.cell? ⟨w.heap.size, 0, none⟩ = some (.slice (some ⟨r.gB, 0, none⟩) N r.cB) := hrG.cell 0
  clear A1 A2 A3 O1 O2 O3 B1 B2 B3 b1 b2 b3 fX hH4 HRf fB fD
  replace hr := hrG
  replace hq := hqG
  replace hb := hbG
  have HRf := HRf2
  clear hrG hqG hbG HRf2
  subst hX
  clear bX bW1 bW2 bW3
  have q1 : (a : Int) + (L : Int) ≤ (N : Int) := by omega
  have q2 : (N : Int) ≤ (r.cB : Int) := by omega
  have q3 : a ≤ N := by omega
  have q5 : a ≤ r.cB := by omega
  have hwa : IntKind.i64.wrap ((a : Nat) : Int) = (a : Int) := i64_in _ (by omega) (by omega)
  have hwb : IntKind.i64.wrap ((a : Int) + (L : Int)) = (a : Int) + (L : Int) := i64_in _ (by omega) (by omega)
  have hwc : ((a : Int) + (L : Int)).toNat = a + L := by omega
  have hwd : (0 : Int) ≤ (a : Int) + (L : Int) := by omega
  by_cases hz : r.cB = a + L
  · rw [if_pos hz] at hp
    subst hp
    have hzT : (r.cB = a + L) = True := eq_true hz
    replace hz := hide hz
    go_region_law (first | ((with_reducible refine step_app ?_ 43 (.tmp 37) (.tmp 41) ?_ ?_ (.slice none 0 0) (.slice (some ⟨r.gB, 0, none⟩) a r.cB) ?_ ?_ v1 G1 ?_ ?_); exact rfl; exact rfl; exact rfl; exact rfl; exact rfl; exact HA1.out) | ((with_reducible refine step_app ?_ 43 (.tmp 42) (.tmp 43) ?_ ?_ v1 (.slice (some ⟨sb, so, none⟩) L sc) ?_ ?_ v2 G2 ?_ ?_); exact rfl; exact rfl; exact rfl; exact rfl; exact rfl; exact HA2.out) | ((with_reducible refine step_app ?_ 43 (.tmp 44) (.tmp 52) ?_ ?_ v2 (.slice (some ⟨r.gB, 0, none⟩) (N - (a + L)) (r.cB - (a + L))) ?_ ?_ (.slice (some ⟨g4, 0, none⟩) N c4) G3 ?_ ?_); exact rfl; exact rfl; exact rfl; exact rfl; exact rfl; exact HA3.out))
    all_goals
      go_simp
      go_wp2_with (first | ((with_reducible refine st_B w.heap.size ⟨r.gB, r.cB, g2, c2, r.wr⟩ N n g4 c4 hr ?_ ?_ ?_); exact rfl; exact rfl; intro W hnew ho; replace hq := hq.only ho (by omega); replace hr := hnew; replace hb := ho.bel _ _ (by omega) hb; replace HH4 := hide (HH4.out.of_heap (ho.row g4 (by (have e1 := HG4.out; omega)))); replace HRf := hide (HRf.out.same (fun x hx => ho.row x (RP.ne hx (by (show r.gB ≠ _; have e2 := HBl.out; omega)) (by (show g2 ≠ _; have e1 := HG2.out; omega)))))) | ((with_reducible refine ld_W w.heap.size _ N n hr ?_ ?_); exact rfl) | ((with_reducible refine st_W w.heap.size _ N n (wrap64 (r.wr + 1)) hr ?_ ?_ ?_); exact rfl; exact rfl; intro W hnew ho; replace hq := hq.only ho (by omega); replace hr := hnew; replace hb := ho.bel _ _ (by omega) hb; replace HH4 := hide (HH4.out.of_heap (ho.row g4 (by (have e1 := HG4.out; omega)))); replace HRf := hide (HRf.out.same (fun x hx => ho.row x (RP.ne hx (by (show r.gB ≠ _; have e2 := HBl.out; omega)) (by (show g2 ≠ _; have e1 := HG2.out; omega)))))) | ((with_reducible refine ld_R w.heap.size _ N n hr ?_ ?_); exact rfl) | ((with_reducible refine st_R (w.heap.size + 1) _ ⟨g4, c4, g2, c2, wrap64 (r.wr + 1)⟩ N n hq ?_ ?_ ?_ ?_); exact rfl; exact rfl; exact rfl; intro W hnew ho; replace hr := hr.only ho (by omega); replace hq := hnew; replace hb := ho.bel _ _ (by omega) hb; replace HH4 := hide (HH4.out.of_heap (ho.row g4 (by (have e1 := HG4.out; omega)))); replace HRf := hide (HRf.out.same (fun x hx => ho.row x (RP.ne hx (by (show r.gB ≠ _; have e2 := HBl.out; omega)) (by (show g2 ≠ _; have e1 := HG2.out; omega)))))))
      refine bodyPost_ret (results_cell_tmp_row Tryd.results40 _ _ (w.heap.size + 1) _ _ _ _ rfl hq Tryd.underlying46 rfl size_R) rfl ?_
      exact ⟨⟨⟨g4, c4, g2, c2, wrap64 (r.wr + 1)⟩, rfl, ⟨HH4.out, HRf.out.marks, wroteF_lt HRef.out.small a HLl.out, ⟨hc4, hc5⟩, HRf.out.capD, HRef.out.few⟩, fun x hx => by (rcases hx with rfl | rfl <;> (show w.heap.size ≤ _) <;> first | exact Nat.le_trans hbs hg4 | exact hg3)⟩, hb⟩
  · rw [if_neg hz] at hp
    subst hp
    go_region_law (first | ((with_reducible refine step_app ?_ 43 (.tmp 37) (.tmp 41) ?_ ?_ (.slice none 0 0) (.slice (some ⟨r.gB, 0, none⟩) a r.cB) ?_ ?_ v1 G1 ?_ ?_); exact rfl; exact rfl; exact rfl; exact rfl; exact rfl; exact HA1.out) | ((with_reducible refine step_app ?_ 43 (.tmp 42) (.tmp 43) ?_ ?_ v1 (.slice (some ⟨sb, so, none⟩) L sc) ?_ ?_ v2 G2 ?_ ?_); exact rfl; exact rfl; exact rfl; exact rfl; exact rfl; exact HA2.out) | ((with_reducible refine step_app ?_ 43 (.tmp 44) (.tmp 52) ?_ ?_ v2 (.slice (some ⟨r.gB, a + L, none⟩) (N - (a + L)) (r.cB - (a + L))) ?_ ?_ (.slice (some ⟨g4, 0, none⟩) N c4) G3 ?_ ?_); exact rfl; exact rfl; exact rfl; exact rfl; exact rfl; exact HA3.out))
    all_goals
      go_simp
      go_wp2_with (first | ((with_reducible refine st_B w.heap.size ⟨r.gB, r.cB, g2, c2, r.wr⟩ N n g4 c4 hr ?_ ?_ ?_); exact rfl; exact rfl; intro W hnew ho; replace hq := hq.only ho (by omega); replace hr := hnew; replace hb := ho.bel _ _ (by omega) hb; replace HH4 := hide (HH4.out.of_heap (ho.row g4 (by (have e1 := HG4.out; omega)))); replace HRf := hide (HRf.out.same (fun x hx => ho.row x (RP.ne hx (by (show r.gB ≠ _; have e2 := HBl.out; omega)) (by (show g2 ≠ _; have e1 := HG2.out; omega)))))) | ((with_reducible refine ld_W w.heap.size _ N n hr ?_ ?_); exact rfl) | ((with_reducible refine st_W w.heap.size _ N n (wrap64 (r.wr + 1)) hr ?_ ?_ ?_); exact rfl; exact rfl; intro W hnew ho; replace hq := hq.only ho (by omega); replace hr := hnew; replace hb := ho.bel _ _ (by omega) hb; replace HH4 := hide (HH4.out.of_heap (ho.row g4 (by (have e1 := HG4.out; omega)))); replace HRf := hide (HRf.out.same (fun x hx => ho.row x (RP.ne hx (by (show r.gB ≠ _; have e2 := HBl.out; omega)) (by (show g2 ≠ _; have e1 := HG2.out; omega)))))) | ((with_reducible refine ld_R w.heap.size _ N n hr ?_ ?_); exact rfl) | ((with_reducible refine st_R (w.heap.size + 1) _ ⟨g4, c4, g2, c2, wrap64 (r.wr + 1)⟩ N n hq ?_ ?_ ?_ ?_); exact rfl; exact rfl; exact rfl; intro W hnew ho; replace hr := hr.only ho (by omega); replace hq := hnew; replace hb := ho.bel _ _ (by omega) hb; replace HH4 := hide (HH4.out.of_heap (ho.row g4 (by (have e1 := HG4.out; omega)))); replace HRf := hide (HRf.out.same (fun x hx => ho.row x (RP.ne hx (by (show r.gB ≠ _; have e2 := HBl.out; omega)) (by (show g2 ≠ _; have e1 := HG2.out; omega)))))))
      refine bodyPost_ret (results_cell_tmp_row Tryd.results40 _ _ (w.heap.size + 1) _ _ _ _ rfl hq Tryd.underlying46 rfl size_R) rfl ?_
      exact ⟨⟨⟨g4, c4, g2, c2, wrap64 (r.wr + 1)⟩, rfl, ⟨HH4.out, HRf.out.marks, wroteF_lt HRef.out.small a HLl.out, ⟨hc4, hc5⟩, HRf.out.capD, HRef.out.few⟩, fun x hx => by (rcases hx with rfl | rfl <;> (show w.heap.size ≤ _) <;> first | exact Nat.le_trans hbs hg4 | exact hg3)⟩, hb⟩
end Go.Proofs.YtalcgipcephnnaaDoor
