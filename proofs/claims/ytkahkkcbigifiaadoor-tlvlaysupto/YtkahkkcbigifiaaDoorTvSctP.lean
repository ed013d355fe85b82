/-
  bodyOf, section: tlv's own.
-/
import Derived.Test.YtkahkkcbigifiaaDoorTvLay
import Derived.Test.YtkahkkcbigifiaaDoorTvAscP
namespace Go.Proofs.YtkahkkcbigifiaaDoor
open Go.RowKit
set_option linter.unusedVariables false
set_option linter.unusedSimpArgs false

variable {P : Program} {ops : Array Oper} {rest : List Oper} {dst : Option Tmp} {ty t t2 : TypeId} {pos : String} {after : Array Edge} {a : Act} {w : World} {Q : Exit → Act → World → Prop} {K : Act → World → Prop} {x y z : Operand} {gd : Option (Nat × Bool)}
theorem cut_ok {B : Nat} {v : Value} {l : List Nat} (w : World) (h : Rd B w v l) (hB : B ≤ w.heap.size) (hn : l.length ≤ 100000) (hT : TabAt w) (h4 : 4 ≤ l.length) (hok : okL l = true) :
    Calls Tryd.prog 56 #[v] w fun e w' => ∃ v', e = .returned (.tuple #[v', .nilIface]) ∧ Own w.heap.size 5 w' v' (l.take (l.length - 4)) ∧ Below w.heap.size w w' := by
  refine (cut_any w h hB hn hT).mono ?_
  rintro e w' (⟨h5, rfl, rfl⟩ | ⟨_, ⟨h5, v', rfl, h6, h7⟩ | ⟨h5, rfl, h6⟩⟩)
  · omega
  · exact ⟨_, rfl, h6, h7⟩
  · rw [hok] at h5; cases h5
theorem cut_bad {B : Nat} {v : Value} {l : List Nat} (w : World) (h : Rd B w v l) (hB : B ≤ w.heap.size) (hn : l.length ≤ 100000) (hT : TabAt w) (h4 : 4 ≤ l.length) (hok : okL l = false) :
    Calls Tryd.prog 56 #[v] w fun e w' => e = .returned (.tuple #[.slice none 0 0, .iface 80 (.int .i64 11)]) ∧ Below w.heap.size w w' := by
  refine (cut_any w h hB hn hT).mono ?_
  rintro e w' (⟨h5, rfl, rfl⟩ | ⟨_, ⟨h5, v', rfl, h6, h7⟩ | ⟨h5, rfl, h6⟩⟩)
  · omega
  · rw [hok] at h5; cases h5
  · exact ⟨rfl, h6⟩
theorem results_cell_two {P : Program} {fn : Func} {p u q : Tmp} {ty : TypeId} (h : fn.results = #[.cell p ty, .tmp u, .tmp q]) (tmps : Array Value) (w : World) (g : Nat) (t : TypeId) (cs : Array Value) (d : TypeDesc)
    (hp : tmps.getD p undef = .pointer (some ⟨g, 0, none⟩)) (hg : RowAt w g cs t) (hu : P.underlying ty = some d) (hd : d.isRow = true) (hi : (P.info? ty).map (·.size) = some cs.size) :
    (results fn tmps).run P w = .ok (.tuple #[.agg cs, tmps.getD u undef, tmps.getD q undef]) w := by
  have e : tmps[p]?.getD undef = .pointer (some ⟨g, 0, none⟩) := by simpa using hp
  have l := run_loadVar_row w g t ty cs (0, 0) d hg hu (by cases d <;> first | rfl | cases hd) hi
  simp [results, h, e, asAddr, l]
theorem own_only {M g0 : Nat} {e : TypeId} {w W : World} {v : Value} {l : List Nat} (h : Own M e w v l) (ho : Only g0 w W) (hg : g0 < M) : Own M e W v l := by
  refine ⟨h.lt, h.row.1, ?_⟩
  rcases h.row.2 with hn | ⟨g, cap, cur, rfl, h1, h2, hrest⟩
  · exact .inl hn
  · exact .inr ⟨g, cap, cur, rfl, h1, (ho.row g (by omega)).trans h2, hrest⟩
theorem ownX_new {M n : Nat} {e : TypeId} {w : World} {lv vo : Value} {l : List Nat} (ho : Own M e w vo l) (hn : n ≤ l.length) (hlv : ∀ k, lv.ownBlock = some k → k < M) : OwnX w lv (sFrom vo n) (l.drop n) := by
  obtain ⟨h1, a, cap, h2, h3, h4, h5⟩ := ho.rd.frm hn
  refine ⟨h1, a, cap, h2, h3, h4, fun h0 => ?_⟩
  obtain ⟨b, off, e1, e2, e3⟩ := h5 h0
  refine ⟨b, off, e1, fun hb => ?_, e3⟩
  rcases ho.row.2 with ⟨rfl, hz⟩ | ⟨g, cp, cur, rfl, hg, _⟩
  · rw [List.length_drop] at h0; omega
  · have hgb : g = b := by
      subst e1
      have e4 : sFrom (.slice (some ⟨g, 0, none⟩) l.length cp) n = .slice (if cp = n then some ⟨g, 0, none⟩ else some (Addr.add ⟨g, 0, none⟩ n)) (l.length - n) (cp - n) := rfl
      rw [e4] at h2
      injection h2 with h2 _ _
      split at h2
      · injection h2 with h2
        injection h2
      · injection h2 with h2
        rw [Addr.add_lit] at h2
        injection h2
    have := hlv b hb
    omega
def bodyE (b : List Nat) : Nat := if b.length < 16 then 12 else if b.take 4 ≠ [80, 78, 67, 69] then 3 else if okL b = false then 11 else 0
set_option maxRecDepth 100000 in
set_option maxHeartbeats 4000000 in
theorem body_bad {B : Nat} {v : Value} {b : List Nat} (w : World) (h : Rd B w v b) (hB : B ≤ w.heap.size) (hn : b.length ≤ 100000) (hT : TabAt w) (he : bodyE b ≠ 0) :
    Calls Tryd.prog 43 #[v] w fun e w' => e = .returned (.tuple #[.slice none 0 0, .iface 80 (.int .i64 (bodyE b : Nat))]) ∧ Below w.heap.size w w' := by
  obtain ⟨ad, cap, rfl, hcap, hmax⟩ := h.form
  have HR := hide h
  have hb : Below w.heap.size w w := Below.refl _ w
  by_cases h16 : b.length < 16
  · have HE := hide (show bodyE b = 12 by rw [bodyE, if_pos h16])
    clear h he
    go_enter Tryd.func43, Tryd.ntmps43
    go_wp2
    go_ret2
    exact ⟨by rw [HE.out]; rfl, hb⟩
  have HTO := hide (h.to (n := 4) (by omega))
  have H4 := hide (show 4 ≤ b.length by omega)
  by_cases hp : b.take 4 = [80, 78, 67, 69]
  · have hpn := (pn_neq (take_lt h.lt 4)).trans (decide_eq_true hp)
    have hok : okL b = false := by
      cases hq : okL b with
      | false => rfl
      | true => exact absurd (by rw [bodyE, if_neg h16, if_neg (by rw [hp]; simp), if_neg (by rw [hq]; decide)]) he
    have HE := hide (show bodyE b = 11 by rw [bodyE, if_neg h16, if_neg (by rw [hp]; simp), if_pos hok])
    have HC := hide (cut_bad w h hB hn hT (by omega) hok)
    clear h he hp hok
    go_enter Tryd.func43, Tryd.ntmps43
    go_wp2_with (first | ((with_reducible refine g_to HR.out 4 H4.out und_sl siz_sl ?_ ?_ ?_ ?_); exact rfl; exact rfl; exact rfl) | ((with_reducible refine g_str HTO.out 5 Tryd.underlying26 Tryd.underlying5 und_str ?_ ?_ ?_); exact rfl; exact rfl) | (go_at_call 56; (with_reducible refine (HC.out).mono ?_); rintro e W ⟨rfl, hb2⟩; replace hb := hb2; clear hb2))
    go_ret2
    exact ⟨by rw [HE.out]; rfl, hb⟩
  · have hpn := (pn_neq (take_lt h.lt 4)).trans (decide_eq_false hp)
    have HE := hide (show bodyE b = 3 by rw [bodyE, if_neg h16, if_pos hp])
    clear h he hp
    go_enter Tryd.func43, Tryd.ntmps43
    go_wp2_with (first | ((with_reducible refine g_to HR.out 4 H4.out und_sl siz_sl ?_ ?_ ?_ ?_); exact rfl; exact rfl; exact rfl) | ((with_reducible refine g_str HTO.out 5 Tryd.underlying26 Tryd.underlying5 und_str ?_ ?_ ?_); exact rfl; exact rfl))
    go_ret2
    exact ⟨by rw [HE.out]; rfl, hb⟩
set_option maxRecDepth 100000 in
set_option maxHeartbeats 4000000 in
theorem body_ok {B : Nat} {v : Value} {b : List Nat} (w : World) (h : Rd B w v b) (hB : B ≤ w.heap.size) (hn : b.length ≤ 100000) (hT : TabAt w) (he : bodyE b = 0) :
    Calls Tryd.prog 43 #[v] w fun e w' => ∃ v', e = .returned (.tuple #[v', .nilIface]) ∧ Own w.heap.size 5 w' v' (b.take (b.length - 4)) ∧ Below w.heap.size w w' := by
  obtain ⟨ad, cap, rfl, hcap, hmax⟩ := h.form
  have HR := hide h
  have hb : Below w.heap.size w w := Below.refl _ w
  unfold bodyE at he
  split at he
  · cases he
  rename_i h16
  split at he
  · cases he
  rename_i hp0
  have hp : b.take 4 = [80, 78, 67, 69] := Classical.byContradiction hp0
  split at he
  · cases he
  rename_i hok0
  have hok : okL b = true := by simpa using hok0
  have HTO := hide (h.to (n := 4) (by omega))
  have H4 := hide (show 4 ≤ b.length by omega)
  have hpn := (pn_neq (take_lt h.lt 4)).trans (decide_eq_true hp)
  have HC := hide (cut_ok w h hB hn hT (by omega) hok)
  clear h he hp hp0 hok hok0
  go_enter Tryd.func43, Tryd.ntmps43
  go_wp2_with (first | ((with_reducible refine g_to HR.out 4 H4.out und_sl siz_sl ?_ ?_ ?_ ?_); exact rfl; exact rfl; exact rfl) | ((with_reducible refine g_str HTO.out 5 Tryd.underlying26 Tryd.underlying5 und_str ?_ ?_ ?_); exact rfl; exact rfl) | (go_at_call 56; (with_reducible refine (HC.out).mono ?_); rintro e W ⟨vo, rfl, hown, hb2⟩; replace hb := hb2; clear hb2))
  go_ret2
  exact ⟨_, rfl, hown, hb⟩
def oneE (r : List Nat) : Nat := if r.length < 12 then 12 else if r.length - 12 < numL ((r.drop 4).take 4) then 12 else if okL (r.take (12 + numL ((r.drop 4).take 4))) = false then 11 else 0
set_option maxRecDepth 100000 in
set_option maxHeartbeats 4000000 in
theorem section_bad {B : Nat} {v : Value} {r : List Nat} (w : World) (h : Rd B w v r) (hB : B ≤ w.heap.size) (hn : r.length ≤ 100000) (hT : TabAt w) (he : oneE r ≠ 0) :
    Calls Tryd.prog 57 #[v] w fun e w' => e = .returned (.tuple #[.agg #[.int .u32 0, .slice none 0 0], .int .i64 0, .iface 80 (.int .i64 (oneE r : Nat))]) ∧ Below w.heap.size w w' := by
  have HR0 := hide h
  obtain ⟨ad, cap, rfl, hcap, hmax⟩ := h.form
  have HR := hide h
  have HT := hide hT
  have HNN := hide hn
  have hb : Below w.heap.size w w := Below.refl _ w
  by_cases h12 : r.length < 12
  · have HE := hide (show oneE r = 12 by rw [oneE, if_pos h12])
    clear h he hT
    go_enter Tryd.func57, Tryd.ntmps57
    go_wp2_with (first | ((with_reducible refine op_alloc w.heap.size ?_ _ zero_ts ?_); exact rfl; intro W hq hb2 hz; replace hb := hb2; clear hb2) | ((with_reducible refine op_store w.heap.size ?_ (#[.int .u32 0, .slice none 0 0] : Array Value) ?_ _ _ hq (size_two _ _) rfl (one_two _ _ _ _) ?_); exact rfl; exact rfl; intro W2 hnew ho; replace hb := ho.bel _ _ (Nat.le_refl _) hb; replace hq := hnew; clear hnew ho))
    refine bodyPost_ret (results_cell_two Tryd.results57 _ _ w.heap.size _ _ _ rfl hq Tryd.underlying82 rfl (size_two _ _)) rfl ?_
    exact ⟨by rw [HE.out]; rfl, hb⟩
  have HM := hide (h.mid (lo := 4) (hi := 8) (by decide) (by omega))
  have H8 := hide (show 8 ≤ r.length by omega)
  have HNM := hide (fun W hR => number_any (B := B) (v := sFrom (sTo (.slice ad r.length cap) 8) 4) (l := (r.drop 4).take (8 - 4)) W hR (by rw [List.length_take]; omega))
  rw [show 8 - 4 = 4 from rfl] at HNM HM
  have hx := (le4 (l := (r.drop 4).take 4) (take_lt (drop_lt h.lt 4) 4) (by rw [List.length_take, List.length_drop]; omega)).2
  obtain ⟨nn, hnn⟩ : ∃ q, numL ((r.drop 4).take 4) = q := ⟨_, rfl⟩
  have hone : oneE r = if r.length - 12 < nn then 12 else if okL (r.take (12 + nn)) = false then 11 else 0 := by
    rw [oneE, if_neg h12, hnn]
  rw [hnn] at HNM hx
  clear hnn
  by_cases h2 : r.length - 12 < nn
  · have HE := hide (show oneE r = 12 by rw [hone, if_pos h2])
    have h2' : r.length < 12 + nn := by omega
    clear h he hT hone h2
    obtain ⟨n0, hn0⟩ : ∃ q, r.length = q := ⟨_, rfl⟩
    rw [hn0] at HR HNM HM hcap h12 h2' ⊢
    clear hn0
    go_enter Tryd.func57, Tryd.ntmps57
    go_wp2_with (first | ((with_reducible refine op_alloc w.heap.size ?_ _ zero_ts ?_); exact rfl; intro W hq hb2 hz; replace hb := hb2; clear hb2) | ((with_reducible refine op_store w.heap.size ?_ (#[.int .u32 0, .slice none 0 0] : Array Value) ?_ _ _ hq (size_two _ _) rfl (one_two _ _ _ _) ?_); exact rfl; exact rfl; intro W2 hnew ho; replace hb := ho.bel _ _ (Nat.le_refl _) hb; replace hq := hnew; clear hnew ho) | ((with_reducible refine g_mid HR.out 4 8 ?_ H8.out und_sl siz_sl ?_ ?_ ?_ ?_ ?_); decide; exact rfl; exact rfl; exact rfl; exact rfl) | (go_at_call 44; (with_reducible refine (HNM.out _ (HM.out.bel (hb.mono hB))).mono ?_); rintro e W3 ⟨rfl, rfl⟩))
    refine bodyPost_ret (results_cell_two Tryd.results57 _ _ w.heap.size _ _ _ rfl hq Tryd.underlying82 rfl (size_two _ _)) rfl ?_
    exact ⟨by rw [HE.out]; rfl, hb⟩
  · have hok : okL (r.take (12 + nn)) = false := by
      cases hq : okL (r.take (12 + nn)) with
      | false => rfl
      | true => exact absurd (by rw [hone, if_neg h2, if_neg (by rw [hq]; decide)]) he
    have HE := hide (show oneE r = 11 by rw [hone, if_neg h2, if_pos hok])
    have H12 := hide (show 12 + nn ≤ r.length by omega)
    have h2' : 12 + nn ≤ r.length := by omega
    have HTK := hide (h.to (n := 12 + nn) (by omega))
    have hlt : (r.take (12 + nn)).length = 12 + nn := by rw [List.length_take]; omega
    have HC := hide (fun (W : World) hR hb' hT' => cut_bad (B := B) (v := sTo (.slice ad r.length cap) (12 + nn)) (l := r.take (12 + nn)) W hR hb' (by omega) hT' (by omega) hok)
    clear h he hT hone h2 hok hlt
    obtain ⟨n0, hn0⟩ : ∃ q, r.length = q := ⟨_, rfl⟩
    rw [hn0] at HR HNM HM HTK HC hcap h12 h2' ⊢
    clear hn0
    go_enter Tryd.func57, Tryd.ntmps57
    go_wp2_with (first | ((with_reducible refine op_alloc w.heap.size ?_ _ zero_ts ?_); exact rfl; intro W hq hb2 hz; replace hb := hb2; clear hb2) | ((with_reducible refine op_store w.heap.size ?_ (#[.int .u32 0, .slice none 0 0] : Array Value) ?_ _ _ hq (size_two _ _) rfl (one_two _ _ _ _) ?_); exact rfl; exact rfl; intro W2 hnew ho; replace hb := ho.bel _ _ (Nat.le_refl _) hb; replace hq := hnew; clear hnew ho) | ((with_reducible refine g_mid HR.out 4 8 ?_ H8.out und_sl siz_sl ?_ ?_ ?_ ?_ ?_); decide; exact rfl; exact rfl; exact rfl; exact rfl) | (go_at_call 44; (with_reducible refine (HNM.out _ (HM.out.bel (hb.mono hB))).mono ?_); rintro e W3 ⟨rfl, rfl⟩) | ((with_reducible refine g_to HR.out (12 + nn) H12.out und_sl siz_sl ?_ ?_ ?_ ?_); exact rfl; exact congrArg (Value.int .i64) (by omega); exact rfl) | (go_at_call 56; (with_reducible refine (HC.out _ (HTK.out.bel (hb.mono hB)) (Nat.le_trans hB hb.size) (HT.out.below hb)).mono ?_); rintro e W4 ⟨rfl, hb4⟩; replace hq := hq.bl hb4; replace hb := below_bl rfl hb hb4; clear hb4))
    refine bodyPost_ret (results_cell_two Tryd.results57 _ _ w.heap.size _ _ _ rfl hq Tryd.underlying82 rfl (size_two _ _)) rfl ?_
    exact ⟨by rw [HE.out]; rfl, hb⟩
set_option maxRecDepth 100000 in
set_option maxHeartbeats 4000000 in
theorem section_ok {B : Nat} {v : Value} {r : List Nat} (w : World) (h : Rd B w v r) (hB : B ≤ w.heap.size) (hn : r.length ≤ 100000) (hT : TabAt w) (nn tg : Nat) (hnn : numL ((r.drop 4).take 4) = nn) (htg : numL (r.take 4) = tg) (he : oneE r = 0) :
    Calls Tryd.prog 57 #[v] w fun e w' => ∃ vo u, e = .returned (.tuple #[.agg #[.int .u32 (tg : Nat), u], .int .i64 ((12 + nn : Nat) : Int), .nilIface]) ∧ u = sFrom vo 8 ∧ Own (w.heap.size + 1) 5 w' vo (r.take (8 + nn)) ∧ Below w.heap.size w w' := by
  obtain ⟨ad, cap, rfl, hcap, hmax⟩ := h.form
  have HR := hide h
  have HT := hide hT
  have hb : Below w.heap.size w w := Below.refl _ w
  unfold oneE at he
  split at he
  · cases he
  rename_i h12
  split at he
  · cases he
  rename_i h2
  split at he
  · cases he
  rename_i hok0
  have HM := hide (h.mid (lo := 4) (hi := 8) (by decide) (by omega))
  have H8 := hide (show 8 ≤ r.length by omega)
  have HNM := hide (fun W hR => number_any (B := B) (v := sFrom (sTo (.slice ad r.length cap) 8) 4) (l := (r.drop 4).take (8 - 4)) W hR (by rw [List.length_take]; omega))
  rw [show 8 - 4 = 4 from rfl] at HNM HM
  have hx := (le4 (l := (r.drop 4).take 4) (take_lt (drop_lt h.lt 4) 4) (by rw [List.length_take, List.length_drop]; omega)).2
  have hy := (le4 (l := r.take 4) (take_lt h.lt 4) (by rw [List.length_take]; omega)).2
  rw [hnn] at HNM hx h2 hok0
  rw [htg] at hy
  have hok : okL (r.take (12 + nn)) = true := by simpa using hok0
  have H12 := hide (show 12 + nn ≤ r.length by omega)
  have h2' : 12 + nn ≤ r.length := by omega
  have HTK := hide (h.to (n := 12 + nn) (by omega))
  have hlt : (r.take (12 + nn)).length = 12 + nn := by rw [List.length_take]; omega
  have HC := hide (fun (W : World) hR hb' hT' => cut_ok (B := B) (v := sTo (.slice ad r.length cap) (12 + nn)) (l := r.take (12 + nn)) W hR hb' (by omega) hT' (by omega) hok)
  have e8 : (r.take (12 + nn)).take ((r.take (12 + nn)).length - 4) = r.take (8 + nn) := by rw [hlt, List.take_take]; congr 1; omega
  rw [e8] at HC
  have hl8 : (r.take (8 + nn)).length = 8 + nn := by rw [List.length_take]; omega
  have h44 : (r.take (8 + nn)).take 4 = r.take 4 := by rw [List.take_take]; congr 1; omega
  have HTG := hide (show numL ((r.take (8 + nn)).take 4) = tg by rw [h44, htg])
  clear h hT he hok hok0 hlt e8 h2 hnn htg h44
  generalize r.take (8 + nn) = lb at *
  obtain ⟨n0, hn0⟩ : ∃ q, r.length = q := ⟨_, rfl⟩
  rw [hn0] at HR HNM HM HTK HC hcap h12 h2' hn ⊢
  clear hn0
  have HL8 := hide hl8
  clear hl8
  go_enter Tryd.func57, Tryd.ntmps57
  go_wp2_with (first | ((with_reducible refine op_alloc w.heap.size ?_ _ zero_ts ?_); exact rfl; intro W hq hb2 hz; replace hb := hb2; clear hb2) | ((with_reducible refine op_store w.heap.size ?_ (#[.int .u32 0, .slice none 0 0] : Array Value) ?_ _ _ hq (size_two _ _) rfl (one_two _ _ _ _) ?_); exact rfl; exact rfl; intro W2 hnew ho; replace hb := ho.bel _ _ (Nat.le_refl _) hb; replace hq := hnew; clear hnew ho) | ((with_reducible refine g_mid HR.out 4 8 ?_ H8.out und_sl siz_sl ?_ ?_ ?_ ?_ ?_); decide; exact rfl; exact rfl; exact rfl; exact rfl) | (go_at_call 44; (with_reducible refine (HNM.out _ (HM.out.bel (hb.mono hB))).mono ?_); rintro e W3 ⟨rfl, rfl⟩) | ((with_reducible refine g_to HR.out (12 + nn) H12.out und_sl siz_sl ?_ ?_ ?_ ?_); exact rfl; exact congrArg (Value.int .i64) (by omega); exact rfl) | (go_at_call 56; (with_reducible refine (HC.out _ (HTK.out.bel (hb.mono hB)) (Nat.le_trans hB hb.size) (HT.out.below hb)).mono ?_); rintro e W4 ⟨vo, rfl, hown, hb4⟩; replace hown := hown.mono (show w.heap.size + 1 ≤ _ by have := hq.lt; omega); replace hq := hq.bl hb4; replace hb := below_bl rfl hb hb4; clear hb4; obtain ⟨ao, co, rfl, hco, hmo⟩ := hown.rd.form))
  have HF0 := hown.rd.frm (n := 8) (by have := HL8.out; omega)
  obtain ⟨af, cf, hvF, _, _⟩ := HF0.form
  have hlF : (lb.drop 8).length = lb.length - 8 := List.length_drop
  rw [hlF] at hvF
  have HVF := hide hvF
  clear HF0 hvF hlF
  refine wp_region_held_drew (S := (fun _ => True)) (by kernel_rfl) ?_ (fun hHeld => ?_)
  · exact trivial
  replace hq := hq.dr
  replace hown := hown.bl (Below.refl _ W4).drew
  replace hb := hb.drew
  generalize W4.drew = V at hq hown hb ⊢
  have HOW := hide hown.rd
  have HL4 := hide (show 4 ≤ lb.length by have := HL8.out; omega)
  have HLE := hide (show 8 ≤ lb.length by have := HL8.out; omega)
  have HT4 := hide (HOW.out.to HL4.out)
  have HNB := hide (number_any (B := V.heap.size) (v := .slice ao 4 co) (l := lb.take 4) V HT4.out (by rw [List.length_take]; omega))
  rw [HTG.out] at HNB
  refine wpAnyH_take (i := 0) (oi := ?oi1) (v := .slice ao lb.length co) ?hi1 (by kernel_rfl) (by kernel_rfl) (by kernel_rfl) ?hQ1 ?hy1 (by assumption) ?rest1
  case hi1 => (simp only [List.getElem?_toArray, List.getElem?_cons_zero]; rfl)
  case hQ1 => exact fun _ _ _ h => h
  case hy1 => exact Or.inl ⟨by rfl, by (intro w hSw; (try dsimp only at hSw); go_simp )⟩
  simp only [Act.put, List.setIfInBounds_toArray, List.set_cons_zero, List.set_cons_succ]
  refine wpAnyH_take (i := 1) (oi := ?oi2) (v := .slice ao 4 co) ?hi2 (by kernel_rfl) (by kernel_rfl) (by kernel_rfl) ?hQ2 ?hy2 (by assumption) ?rest2
  case hi2 => (simp only [List.getElem?_toArray, List.getElem?_cons_zero, List.getElem?_cons_succ]; rfl)
  case hQ2 => exact fun _ _ _ h => h
  case hy2 => exact Or.inl ⟨by rfl, fun U hU => ex_to HOW.out HL4.out und_sl siz_sl rfl rfl U⟩
  simp only [Act.put, List.setIfInBounds_toArray, List.set_cons_zero, List.set_cons_succ]
  refine wpAnyH_take (i := 4) (oi := ?oi3) (v := .slice ao lb.length co) ?hi3 (by kernel_rfl) (by kernel_rfl) (by kernel_rfl) ?hQ3 ?hy3 (by assumption) ?rest3
  case hi3 => (simp only [List.getElem?_toArray, List.getElem?_cons_zero, List.getElem?_cons_succ]; rfl)
  case hQ3 => exact fun _ _ _ h => h
  case hy3 => exact Or.inl ⟨by rfl, by (intro w hSw; (try dsimp only at hSw); go_simp )⟩
  simp only [Act.put, List.setIfInBounds_toArray, List.set_cons_zero, List.set_cons_succ]
  refine wpAnyH_take (i := 5) (oi := ?oi4) (v := .slice af (lb.length - 8) cf) ?hi4 (by kernel_rfl) (by kernel_rfl) (by kernel_rfl) ?hQ4 ?hy4 (by assumption) ?rest4
  case hi4 => (simp only [List.getElem?_toArray, List.getElem?_cons_zero, List.getElem?_cons_succ]; rfl)
  case hQ4 => exact fun _ _ _ h => h
  case hy4 => exact Or.inl ⟨by rfl, fun U hU => (ex_frm HOW.out HLE.out und_sl siz_sl rfl rfl U).trans (by rw [HVF.out])⟩
  simp only [Act.put, List.setIfInBounds_toArray, List.set_cons_zero, List.set_cons_succ]
  refine wpAnyH_take (i := 7) (oi := ?oi5) (v := .int .i64 ((12 + nn : Nat) : Int)) ?hi5 (by kernel_rfl) (by kernel_rfl) (by kernel_rfl) ?hQ5 ?hy5 (by assumption) ?rest5
  case hi5 => (simp only [List.getElem?_toArray, List.getElem?_cons_zero, List.getElem?_cons_succ]; rfl)
  case hQ5 => exact fun _ _ _ h => h
  case hy5 => exact Or.inl ⟨by rfl, by (intro w hSw; (try dsimp only at hSw); go_simp; try omega)⟩
  simp only [Act.put, List.setIfInBounds_toArray, List.set_cons_zero, List.set_cons_succ]
  refine wpAnyH_ready (rs := [2]) (by kernel_rfl) (by simp) ?_
  refine AllReadyH.cons (o := ?oi6) ?hi6 (fun K hK => ?_) AllReadyH.nil
  case hi6 => (simp only [List.getElem?_toArray, List.getElem?_cons_zero, List.getElem?_cons_succ]; rfl)
  rw [if_pos (by rfl)]
  go_simp
  refine (HNB.out).mono ?_
  rintro e V2 ⟨rfl, rfl⟩
  go_simp
  refine hK.out _ _ ?_ (fun hHeld => ?_)
  · exact trivial
  clear hK K
  refine wpAnyH_take (i := 3) (oi := ?oi7) (v := .int .u32 (tg : Nat)) ?hi7 (by kernel_rfl) (by kernel_rfl) (by kernel_rfl) ?hQ7 ?hy7 (by assumption) ?rest7
  case hi7 => (simp only [List.getElem?_toArray, List.getElem?_cons_zero, List.getElem?_cons_succ]; rfl)
  case hQ7 => exact fun _ _ _ h => h
  case hy7 => exact Or.inl ⟨by rfl, by (intro w hSw; go_simp; try (rw [IntKind.wrap_u32]; omega))⟩
  simp only [Act.put, List.setIfInBounds_toArray, List.set_cons_zero, List.set_cons_succ]
  refine wpAnyH_take (i := 6) (oi := ?oi8) (v := .agg #[.int .u32 (tg : Nat), .slice af (lb.length - 8) cf]) ?hi8 (by kernel_rfl) (by kernel_rfl) (by kernel_rfl) ?hQ8 ?hy8 (by assumption) ?rest8
  case hi8 => (simp only [List.getElem?_toArray, List.getElem?_cons_zero, List.getElem?_cons_succ]; rfl)
  case hQ8 => exact fun _ _ _ h => h
  case hy8 => exact Or.inl ⟨by rfl, by (intro w hSw; go_simp; try rfl)⟩
  simp only [Act.put, List.setIfInBounds_toArray, List.set_cons_zero, List.set_cons_succ]
  refine wpAnyH_ready (rs := [8]) (by kernel_rfl) (by simp) ?_
  refine AllReadyH.cons (o := ?oi9) ?hi9 (fun K hK => ?_) AllReadyH.nil
  case hi9 => (simp only [List.getElem?_toArray, List.getElem?_cons_zero, List.getElem?_cons_succ]; rfl)
  rw [if_pos (by rfl)]
  refine s_store w.heap.size rfl (#[.int .u32 (tg : Nat), .slice af (lb.length - 8) cf] : Array Value) rfl _ _ hq (size_two _ _) rfl (one_two _ _ _ _) ?_
  intro V3 hnew ho
  refine hK.out _ _ ?_ (fun hHeld => ?_)
  · exact trivial
  clear hK K
  refine wpAnyH_take (i := 9) (oi := ?oi10) (v := .int .i64 ((12 + nn : Nat) : Int)) ?hi10 (by kernel_rfl) (by kernel_rfl) (by kernel_rfl) ?hQ10 ?hy10 (by assumption) ?rest10
  case hi10 => (simp only [List.getElem?_toArray, List.getElem?_cons_zero, List.getElem?_cons_succ]; rfl)
  case hQ10 => exact fun _ _ _ h => h
  case hy10 => exact Or.inl ⟨by rfl, by (intro w hSw; (try dsimp only at hSw); go_simp )⟩
  simp only [Act.put, List.setIfInBounds_toArray, List.set_cons_zero, List.set_cons_succ]
  refine wpAnyH_take (i := 10) (oi := ?oi11) (v := .nilIface) ?hi11 (by kernel_rfl) (by kernel_rfl) (by kernel_rfl) ?hQ11 ?hy11 (by assumption) ?rest11
  case hi11 => (simp only [List.getElem?_toArray, List.getElem?_cons_zero, List.getElem?_cons_succ]; rfl)
  case hQ11 => exact fun _ _ _ h => h
  case hy11 => exact Or.inl ⟨by rfl, by (intro w hSw; (try dsimp only at hSw); go_simp )⟩
  simp only [Act.put, List.setIfInBounds_toArray, List.set_cons_zero, List.set_cons_succ]
  refine wpAnyH_done (by kernel_rfl) ?_ _
  replace hq := hnew
  replace hb := ho.bel _ _ (Nat.le_refl _) hb
  replace hown := own_only hown ho (Nat.lt_succ_self _)
  go_wp2
  refine bodyPost_ret (results_cell_two Tryd.results57 _ _ w.heap.size _ _ _ rfl hq Tryd.underlying82 rfl (size_two _ _)) rfl ?_
  exact ⟨_, _, rfl, HVF.out.symm, hown, hb⟩
end Go.Proofs.YtkahkkcbigifiaaDoor
