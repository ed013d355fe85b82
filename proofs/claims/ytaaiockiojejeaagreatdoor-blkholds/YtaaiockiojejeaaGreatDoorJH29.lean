/-
  The law's live: a disk that works.
-/
import Derived.Test.YtaaiockiojejeaaGreatDoorJH28
import Derived.Test.YtaaiockiojejeaaGreatDoorJH27
import Derived.Test.YtaaiockiojejeaaGreatDoorJH26
namespace Go.Proofs.YtaaiockiojejeaaGreatDoor
open Go.RowKit
set_option linter.unusedVariables false
set_option linter.unusedSimpArgs false

set_option maxHeartbeats 2000000 in
theorem finish_none (s : Bk) (l : List (Rq × Value)) (hsl : l.map (·.1) = s.l) (hl8 : l.length ≤ 1000) (v : Value) (b id : Nat) (okk : Bool) {w : World} {Bi : Nat} {O : Nat → Prop} (hI : InAt w Bi O v l) (dv : Value) (hz0 : idxQ s.l id < 0) : Calls Tryz.prog 17 #[.agg (s.c v), .pointer (some ⟨b, 0, none⟩), .int .u32 (id : Nat), .bool okk, dv] w fun e w' => e = .returned (.tuple #[.agg (zeroBk.c nilS), .iface 129 (.int .i64 8)]) ∧ Below w.heap.size w w' := by
  have HFd : Hid (∀ W, Below w.heap.size w W → Calls Tryz.prog 47 #[v, .int .u32 (id : Nat)] W fun e w' => e = .returned (.int .i64 (idxQ s.l id)) ∧ Below W.heap.size W w') := hide (fun W hb => by
    have := bfind_any l (by omega) id (hI.bl hb).row
    rwa [hsl] at this)
  obtain ⟨z, hz9⟩ : ∃ z, idxQ s.l id = z := ⟨_, rfl⟩
  rw [hz9] at HFd hz0
  have t1 : decide (z < 0) = true := by simp; omega
  clear hz9 hI hsl
  go_enter Tryz.func17, Tryz.ntmps17
  go_wp2_with (first | ((with_reducible refine bx_bk w.heap.size s v ?_ ?_ ?_); exact rfl; exact rfl; intro W hr hb hz) | ((with_reducible refine al_bk (w.heap.size + 1) ?_ ?_); exact hz.out; intro W hq hb' hz'; replace hr := hr.bl (hz.out ▸ hb'); replace hb := hb.trans (hb'.mono (by omega)); replace hz := hz'; have HB := hide hb; have hS : w.heap.size + 2 ≤ W.heap.size := Nat.le_of_eq hz'.out.symm) | ((with_reducible refine ld_bin w.heap.size s _ _ hr ?_ ?_ ?_); exact rfl; exact rfl) | (go_at_call 47; (with_reducible refine (HFd.out _ HB.out).mono ?_); rintro e W ⟨rfl, hbc⟩; replace hr := hr.bl hbc; replace hq := hq.bl hbc; replace hb := hb.trans (hbc.mono (by omega)); replace hS := Nat.le_trans hS hbc.size; clear hbc HB) | ((with_reducible refine st_bk (w.heap.size + 1) _ _ zeroBk nilS rfl hq ?_ ?_ ?_); exact rfl; exact rfl; intro W hnew ho; replace hr := hr.only ho (by omega); replace hb := ho.bel _ _ (by omega) hb; replace hq := hnew; clear hnew ho))
  refine bodyPost_ret (results_cell_u Tryz.results17 _ _ (w.heap.size + 1) _ _ _ rfl hq Tryz.underlying53 rfl size_bk) rfl ?_
  exact ⟨rfl, hb⟩
set_option maxHeartbeats 2000000 in
theorem finish_long (s : Bk) (l : List (Rq × Value)) (hsl : l.map (·.1) = s.l) (hl8 : l.length ≤ 1000) (v : Value) (b id : Nat) (okk : Bool) {w : World} {Bi : Nat} {O : Nat → Prop} (hI : InAt w Bi O v l) (k : Nat) (q : Rq) (qv : Value) (hz0 : idxQ s.l id = (k : Nat)) (hkq : l[k]? = some (q, qv)) (da : Option Addr) (dn dc : Nat) (hok : okk = true) (hne : (dn : Int) ≠ (if q.wr = true then 0 else q.n)) : Calls Tryz.prog 17 #[.agg (s.c v), .pointer (some ⟨b, 0, none⟩), .int .u32 (id : Nat), .bool okk, .slice da dn dc] w fun e w' => e = .returned (.tuple #[.agg (zeroBk.c nilS), .iface 129 (.int .i64 2)]) ∧ Below w.heap.size w w' := by
  have HFd : Hid (∀ W, Below w.heap.size w W → Calls Tryz.prog 47 #[v, .int .u32 (id : Nat)] W fun e w' => e = .returned (.int .i64 (idxQ s.l id)) ∧ Below W.heap.size W w') := hide (fun W hb => by
    have := bfind_any l (by omega) id (hI.bl hb).row
    rwa [hsl] at this)
  have hkl : k < l.length := (List.getElem?_eq_some_iff.1 hkq).1
  obtain ⟨gv, cap, cur, rfl, hc1, hc2, _, hLr, hcs, htk⟩ := own_row hI.row (by omega)
  have HMid : Hid ((cur.extract (k * 6) (k * 6 + (q.c qv).size)).toList = (q.c qv).toList) := hide (mid_r htk hkq)
  have hqo : qv.oneCell' = true := own_one (hI.own _ (List.mem_of_getElem? hkq))
  have hgw : gv < w.heap.size := hLr.lt
  have HAb := hide (fun w => ansbytes_any q qv w)
  rw [hz0] at HFd
  have i1 : (k : Int) < (l.length : Int) := by omega
  have t1 : decide ((k : Int) < 0) = false := by simp
  subst hok
  obtain ⟨z, hz9⟩ : ∃ z, (if q.wr = true then (0 : Int) else q.n) = z := ⟨_, rfl⟩
  rw [hz9] at HAb hne
  have t2 : ((dn : Int) == z) = false := by simpa using hne
  clear hz9 hI hsl hz0 hkq htk hcs hne
  go_enter Tryz.func17, Tryz.ntmps17
  go_wp2_with (first | ((with_reducible refine bx_bk w.heap.size s (.slice (some ⟨gv, 0, none⟩) l.length cap) ?_ ?_ ?_); exact rfl; exact rfl; intro W hr hb hz) | ((with_reducible refine al_bk (w.heap.size + 1) ?_ ?_); exact hz.out; intro W hq hb' hz'; replace hr := hr.bl (hz.out ▸ hb'); replace hb := hb.trans (hb'.mono (by omega)); replace hz := hz'; have HB := hide hb; have hS : w.heap.size + 2 ≤ W.heap.size := Nat.le_of_eq hz'.out.symm) | ((with_reducible refine ld_bin w.heap.size s _ _ hr ?_ ?_ ?_); exact rfl; exact rfl) | (go_at_call 47; (with_reducible refine (HFd.out _ HB.out).mono ?_); rintro e W ⟨rfl, hbc⟩; replace hr := hr.bl hbc; replace hq := hq.bl hbc; replace hb := hb.trans (hbc.mono (by omega)); replace hS := Nat.le_trans hS hbc.size; replace hLr := (hLr.bl HB.out).bl hbc; (obtain ⟨NQ, hNQ0⟩ : ∃ n, W.heap.size = n := ⟨_, rfl⟩); (have hNQ := hide hNQ0); (have hnq : w.heap.size + 2 ≤ NQ := hNQ0 ▸ hS); (have hgn : gv < NQ := hNQ0 ▸ hLr.lt); clear hNQ0 hbc HB) | ((with_reducible refine ld_rm gv (k * 6) q qv cur _ hLr HMid.out ?_ ?_); exact rfl) | ((with_reducible refine al_rq NQ ?_ ?_); exact hNQ.out; intro W hn hb' hz'; have hbc := hNQ.out ▸ hb'; replace hr := hr.bl hbc; replace hq := hq.bl hbc; replace hLr := hLr.bl hbc; replace hb := hb.trans (hb'.mono (by omega)); replace hS := Nat.le_trans hS hbc.size; clear hbc hb' hz') | ((with_reducible refine st_rq NQ _ _ q qv hqo hn ?_ ?_ ?_); exact rfl; exact rfl; intro W hnew ho; replace hr := hr.only ho (by omega); replace hq := hq.only ho (by omega); replace hLr := hLr.only ho (by omega); replace hb := ho.bel _ _ (by omega) hb; replace hS := (show w.heap.size + 2 ≤ W.heap.size by rw [ho.size]; exact hS); replace hn := hnew; clear hnew ho) | ((with_reducible refine ld_rq NQ q qv hn ?_ ?_ ?_); exact rfl; exact rfl) | (go_at_call 48; (with_reducible refine (HAb.out _).mono ?_); rintro e W ⟨rfl, hbc⟩; replace hr := hr.bl hbc; replace hq := hq.bl hbc; replace hn := hn.bl hbc; replace hLr := hLr.bl hbc; replace hb := hb.trans (hbc.mono (by omega)); replace hS := Nat.le_trans hS hbc.size; clear hbc) | ((with_reducible refine st_bk (w.heap.size + 1) _ _ zeroBk nilS rfl hq ?_ ?_ ?_); exact rfl; exact rfl; intro W hnew ho; replace hr := hr.only ho (by omega); replace hn := hn.only ho (by omega); replace hLr := hLr.only ho (by omega); replace hb := ho.bel _ _ (by omega) hb; replace hq := hnew; clear hnew ho))
  refine bodyPost_ret (results_cell_u Tryz.results17 _ _ (w.heap.size + 1) _ _ _ rfl hq Tryz.underlying53 rfl size_bk) rfl ?_
  exact ⟨rfl, hb⟩
end Go.Proofs.YtaaiockiojejeaaGreatDoor
namespace Go.Proofs.YtaaiockiojejeaaGreatDoor
open Go.RowKit
set_option linter.unusedVariables false
set_option linter.unusedSimpArgs false

variable {ops : Array Oper} {rest : List Oper} {dst : Option Tmp} {ty : TypeId} {pos : String} {after : Array Edge} {a : Act} {w : World} {Q : Exit → Act → World → Prop} {x y : Operand}
theorem st_smm (b o : Nat) (g : Sg) (old : Array Value) (t' : TypeId) (hr : RowAt w b old t') (hs : o + 3 ≤ old.size) (hx : a.eval x = .pointer (some ⟨b, o, none⟩)) (hy : a.eval y = .agg g.cells)
    (k : ∀ W, RowAt W b (putAll old o g.cells.toList) t' → Only b w W → wpList Tryz.prog ops Q rest (a.put dst undef) W) : wpList Tryz.prog ops Q (⟨dst, .store 103 x y, ty, pos, after, none⟩ :: rest) a w :=
  op_store_mid b o hx g.cells hy old _ _ hr size_sp hs (sg_one g) rfl k
set_option maxHeartbeats 1000000 in
theorem wri1_any (s : Sg) (w : World) : Calls Tryz.prog 142 #[.agg s.cells] w fun e w' => e = .returned (.bool (!s.wr)) ∧ Below w.heap.size w w' := by
  go_enter Tryz.func142, Tryz.ntmps142
  go_wp2_with (first | ((with_reducible refine bx_sp w.heap.size s ?_ ?_ ?_); exact rfl; exact rfl; intro W hr hb hz) | ((with_reducible refine ld_swr w.heap.size _ _ hr ?_ ?_ ?_); exact rfl; exact rfl))
  go_ret
  exact ⟨rfl, hb⟩
/-- The first part that is not written; -1: none. -/
def idxW (l : List Sg) : Int := match l.findIdx? (fun s => !s.wr) with
  | some k => (k : Int)
  | none => -1
theorem idxW_hit {l : List Sg} {k : Nat} {s : Sg} (h : ∀ x ∈ l.take k, x.wr = true) (hs : l[k]? = some s) (hw : s.wr = false) : idxW l = (k : Int) := by
  unfold idxW
  have hk := (List.getElem?_eq_some_iff.1 hs).1
  have : l.findIdx? (fun s => !s.wr) = some k := by
    rw [List.findIdx?_eq_some_iff_getElem]
    refine ⟨hk, by rw [(List.getElem?_eq_some_iff.1 hs).2, hw]; rfl, fun j hj => ?_⟩
    rw [h _ (List.mem_take_iff_getElem.2 ⟨j, by omega, rfl⟩)]; simp
  rw [this]
theorem idxW_none {l : List Sg} (h : ∀ x ∈ l, x.wr = true) : idxW l = -1 := by
  unfold idxW
  have : l.findIdx? (fun s => !s.wr) = none := by
    rw [List.findIdx?_eq_none_iff]
    intro q hq; rw [h q hq]; rfl
  rw [this]
theorem idxW_cases (l : List Sg) : (idxW l = -1 ∧ ∀ x ∈ l, x.wr = true) ∨ ∃ k s, idxW l = (k : Nat) ∧ l[k]? = some s ∧ s.wr = false ∧ ∀ x ∈ l.take k, x.wr = true := by
  unfold idxW
  cases h : l.findIdx? (fun s => !s.wr) with
  | none =>
    refine .inl ⟨rfl, fun x hx => ?_⟩
    have := (List.findIdx?_eq_none_iff.1 h) x hx
    simpa using this
  | some k =>
    obtain ⟨hk, h1, h2⟩ := List.findIdx?_eq_some_iff_getElem.1 h
    refine .inr ⟨k, l[k], rfl, List.getElem?_eq_getElem hk, by simpa using h1, fun x hx => ?_⟩
    obtain ⟨j, hj, rfl⟩ := List.mem_take_iff_getElem.1 hx
    have := h2 j (by omega)
    simpa using this
theorem wriL_all {l : List Sg} (h : ∀ x ∈ l, x.wr = true) : wriL l = l := List.filter_eq_self.2 h
theorem wriL_app (l m : List Sg) : wriL (l ++ m) = wriL l ++ wriL m := by simp [wriL]
theorem wriL_le (l : List Sg) : (wriL l).length ≤ l.length := List.length_filter_le _ _
set_option maxHeartbeats 2000000 in
theorem idxw_any (l : List Sg) (hl : l.length ≤ 1000000) {w : World} {Bl : Nat} {v : Value} (hL : w.ownsRow Bl 103 3 v l.length (segL l)) :
    Calls Tryz.prog 132 #[v, .func (.func 142) #[] #[]] w fun e w' => e = .returned (.int .i64 (idxW l)) ∧ Below w.heap.size w w' := by
  have HL := hide hL
  obtain ⟨n, hn⟩ : ∃ n, l.length = n := ⟨_, rfl⟩
  have HN := hide hn
  rw [hn] at hl
  obtain ⟨av, cap, rfl, hc1, hc2⟩ := own_form hL
  rw [hn] at hc1 ⊢
  obtain ⟨z, hz⟩ : ∃ z, idxW l = z := ⟨_, rfl⟩
  have HZ := hide hz
  rw [hz]
  clear hL hn hz
  go_enter Tryz.func132, Tryz.ntmps132
  go_wp2
  go_loopw [8] (fun iv wr => ∃ (k : Nat), k ≤ n ∧ iv = .int .i64 (k : Nat) ∧ (∀ x ∈ l.take k, x.wr = true) ∧ Below w.heap.size w wr) (fun iv _ => n - (intOf iv).toNat)
  case atStart => exact ⟨0, Nat.zero_le _, rfl, (fun x hx => by simp at hx), Below.refl _ _⟩
  case round =>
    obtain ⟨k, hk, rfl, hod, hb⟩ := hrel
    have HOD := hide hod
    clear hod
    by_cases hlt : k < n
    · obtain ⟨gb, cap', cur, hve, _, _, _, hLr, _, htk⟩ := own_row (own_bel HL.out hb) (show 0 < l.length by rw [HN.out]; omega)
      obtain ⟨rfl, rfl⟩ : av = some ⟨gb, 0, none⟩ ∧ cap = cap' := by injection hve with e1 e2 e3; exact ⟨e1, e3⟩
      obtain ⟨s, hs⟩ : ∃ s, l[k]? = some s := ⟨_, List.getElem?_eq_getElem (by rw [HN.out]; exact hlt)⟩
      have hmid := mid_s htk hs
      have HS := hide hs
      have HC := hide (fun W => wri1_any s W)
      obtain ⟨bo, hbo⟩ : ∃ x, s.wr = x := ⟨_, rfl⟩
      rw [hbo] at HC
      have HBO := hide hbo
      clear hs hbo htk hve
      cases bo with
      | false =>
        go_wp2_with (first | ((with_reducible refine ld_sm gb (k * 3) s cur _ hLr hmid ?_ ?_); exact rfl) | (go_at_call 142; (with_reducible refine (HC.out _).mono ?_); rintro e W2 ⟨rfl, hb2⟩))
        go_ret
        exact ⟨by rw [← HZ.out, idxW_hit HOD.out HS.out HBO.out]; rfl, hb.trans (hb2.mono hb.size)⟩
      | true =>
        go_wp2_with (first | ((with_reducible refine ld_sm gb (k * 3) s cur _ hLr hmid ?_ ?_); exact rfl) | (go_at_call 142; (with_reducible refine (HC.out _).mono ?_); rintro e W2 ⟨rfl, hb2⟩))
        go_roundw
        case rel => exact ⟨k + 1, hlt, by go_num, (fun x hx => by rw [List.take_add_one, HS.out] at hx; rcases List.mem_append.1 hx with h | h; exact HOD.out x h; simp at h; subst h; exact HBO.out), hb.trans (hb2.mono hb.size)⟩
        case measure => simp [intOf]; omega
    · obtain rfl : k = n := by omega
      go_wp2
      go_ret
      exact ⟨by rw [← HZ.out, idxW_none (by have := HOD.out; rwa [← HN.out, List.take_length] at this)]; rfl, hb⟩
/-- The row while parts are left out. -/
structure DelS (w : World) (gb cap : Nat) (l : List Sg) (i j : Nat) : Prop where
  ex : ∃ cur : Array Value, RowAt w gb cur 103 ∧ cur.size = cap * 3 ∧ (∀ (t : Nat) (u : Value), (segL (wriL (l.take j)))[t]? = some u → cur[t]? = some u) ∧ ∀ (t : Nat) (s : Sg), j ≤ t → l[t]? = some s → ∀ (c : Nat), c < 3 → cur[t * 3 + c]? = s.cells[c]?
  len : (wriL (l.take j)).length = i
  le : l.length ≤ cap
theorem take_pre {cur : Array Value} {xs : List Value} {m : Nat} (h : ∀ (t : Nat) (u : Value), xs[t]? = some u → cur[t]? = some u) (hm : xs.length = m) : cur.toList.take m = xs := by
  apply List.ext_getElem?
  intro j
  rw [List.getElem?_take]
  split
  · rename_i hj
    rw [Array.getElem?_toList, List.getElem?_eq_getElem (by omega)]
    exact h j _ (List.getElem?_eq_getElem (by omega))
  · rw [List.getElem?_eq_none (by omega)]
theorem DelS.bl {w W : World} {gb cap i j : Nat} {l : List Sg} (h : DelS w gb cap l i j) (hb : Below w.heap.size w W) : DelS W gb cap l i j := by
  obtain ⟨cur, h1, h2⟩ := h.ex
  exact ⟨⟨cur, h1.bl hb, h2⟩, h.len, h.le⟩
theorem DelS.only {w W : World} {gb cap i j g : Nat} {l : List Sg} (h : DelS w gb cap l i j) (ho : Only g w W) (hn : gb ≠ g) : DelS W gb cap l i j := by
  obtain ⟨cur, h1, h2⟩ := h.ex
  exact ⟨⟨cur, h1.only ho hn, h2⟩, h.len, h.le⟩
theorem DelS.skip {w : World} {gb cap i j : Nat} {l : List Sg} {s : Sg} (h : DelS w gb cap l i j) (hs : l[j]? = some s) (hw : s.wr = false) : DelS w gb cap l i (j + 1) := by
  have e : wriL (l.take (j + 1)) = wriL (l.take j) := by rw [List.take_add_one, hs, wriL_app]; simp [wriL, hw]
  obtain ⟨cur, h1, h2, h3, h4⟩ := h.ex
  exact ⟨⟨cur, h1, h2, by rw [e]; exact h3, fun t x ht hx => h4 t x (by omega) hx⟩, by rw [e]; exact h.len, h.le⟩
theorem DelS.put {w W : World} {gb cap i j : Nat} {l : List Sg} {s : Sg} {cur : Array Value} (h : DelS w gb cap l i j) (hs : l[j]? = some s) (hw : s.wr = true) (hij : i ≤ j) (hr : RowAt w gb cur 103) (hW : RowAt W gb (putAll cur (i * 3) s.cells.toList) 103) : DelS W gb cap l (i + 1) (j + 1) := by
  have e : wriL (l.take (j + 1)) = wriL (l.take j) ++ [s] := by rw [List.take_add_one, hs, wriL_app]; simp [wriL, hw]
  obtain ⟨cur', h1, h2, h3, h4⟩ := h.ex
  have e1 := hr.symm.trans h1
  simp at e1
  subst e1
  have hjl := (List.getElem?_eq_some_iff.1 hs).1
  have hle := h.le
  have h33 : s.cells.toList.length = 3 := rfl
  have hfit : i * 3 + s.cells.toList.length ≤ cur.size := by rw [h33, h2]; omega
  refine ⟨⟨_, hW, by rw [putAll_size]; exact h2, fun t u hu => ?_, fun t x ht hx c hc => ?_⟩, by rw [e, List.length_append, h.len]; rfl, h.le⟩
  · rw [putAll_get _ _ _ _ hfit, h33]
    rw [e, segL_app, segL_one] at hu
    have hl3 : (segL (wriL (l.take j))).length = i * 3 := by rw [segL_len, h.len]
    by_cases ht : t < i * 3
    · rw [if_neg (by omega)]
      rw [List.getElem?_append_left (by omega)] at hu
      exact h3 t u hu
    · rw [List.getElem?_append_right (by omega), hl3] at hu
      have : t - i * 3 < 3 := by have := (List.getElem?_eq_some_iff.1 hu).1; rwa [h33] at this
      rw [if_pos (by omega)]; exact hu
  · rw [putAll_get _ _ _ _ hfit, h33, if_neg (by omega)]
    exact h4 t x (by omega) hx c hc
theorem own_del {w : World} {B gb n cap : Nat} {l : List Sg} (h : w.ownsRow B 103 3 (.slice (some ⟨gb, 0, none⟩) n cap) n (segL l)) (hn : l.length = n) : ∀ k, (∀ x ∈ l.take k, x.wr = true) → k ≤ n → DelS w gb cap l k k := by
  intro k hk hkn
  obtain ⟨g', cap', cur, hve, hnc, _, _, hr, hcs, htk⟩ : ∃ g' cap' cur, (Value.slice (some ⟨gb, 0, none⟩) n cap) = .slice (some ⟨g', 0, none⟩) n cap' ∧ n ≤ cap' ∧ cap' ≤ maxLen ∧ B ≤ g' ∧ RowAt w g' cur 103 ∧ cur.size = cap' * 3 ∧ cur.toList.take (n * 3) = segL l := by
    rcases h.2 with ⟨h1, _⟩ | ⟨g', cap', cur, h1, h2, h3, h4, h5, h6, h7⟩
    · cases h1
    · exact ⟨g', cap', cur, h1, h4, h5, h2, h3, h6, h7⟩
  injection hve with e1 e2 e3
  cases e1
  subst e3
  have e : wriL (l.take k) = l.take k := wriL_all hk
  have hat : ∀ (t : Nat) (u : Value), (segL l)[t]? = some u → cur[t]? = some u := fun t u hu => by
    rw [← htk, List.getElem?_take] at hu
    split at hu
    · rw [← Array.getElem?_toList]; exact hu
    · cases hu
  refine ⟨⟨cur, hr, hcs, fun t u hu => ?_, fun t s ht hs c hc => ?_⟩, by rw [e, List.length_take]; omega, by omega⟩
  · rw [e] at hu
    apply hat
    have : segL l = segL (l.take k) ++ segL (l.drop k) := by rw [← segL_app, List.take_append_drop]
    rw [this, List.getElem?_append_left (List.getElem?_eq_some_iff.1 hu).1]; exact hu
  · have := segL_at l t s hs c hc
    rw [show s.cells[c]? = some (s.cells[c]'(by show c < 3; exact hc)) from Array.getElem?_eq_getElem _] at this ⊢
    exact hat _ _ this
set_option maxHeartbeats 4000000 in
theorem delf_any (l : List Sg) (hl : l.length ≤ 1000) (hl0 : 0 < l.length) {w : World} {Bl : Nat} {v : Value} (hL : w.ownsRow Bl 103 3 v l.length (segL l)) (hBl : Bl ≤ w.heap.size) :
    Calls Tryz.prog 141 #[v, .func (.func 142) #[] #[]] w fun e w' => ∃ v', e = .returned v' ∧ w'.ownsRow Bl 103 3 v' (wriL l).length (segL (wriL l)) ∧ Below Bl w w' := by
  have HX := hide (idxw_any l (by omega) hL)
  obtain ⟨n, hn⟩ : ∃ n, l.length = n := ⟨_, rfl⟩
  have HN := hide hn
  obtain ⟨gb, cap, cur0, rfl, hc1, hc2, hgB, _, _, _⟩ := own_row hL hl0
  have hL1 := hL
  rw [hn] at HX hl hl0 hc1 hL1 ⊢
  have HL := hide hL1
  have HD := hide (own_del hL1 hn)
  clear hL hL1 hn
  rcases idxW_cases l with ⟨e, hall⟩ | ⟨k0, s0, e, hs0, hw0, hpre⟩
  · rw [e] at HX
    have e2 : wriL l = l := wriL_all hall
    rw [e2]
    clear hall e2 e
    go_enter Tryz.func141, Tryz.ntmps141
    go_wp2_with (first | (go_at_call 132; (with_reducible refine HX.out.mono ?_); rintro e W2 ⟨rfl, hb⟩))
    go_ret
    exact ⟨_, rfl, by rw [HN.out]; exact own_bel HL.out hb, hb.mono hBl⟩
  · rw [e] at HX
    have hk0 : k0 < n := by have := (List.getElem?_eq_some_iff.1 hs0).1; rwa [HN.out] at this
    have HD0 := hide ((HD.out k0 hpre (by omega)).skip hs0 hw0)
    have tk : ((k0 : Int) == -1) = false := by first | (simp; done) | (simp; omega)
    clear HD hpre hs0 hw0 e
    go_enter Tryz.func141, Tryz.ntmps141
    go_wp2_with (first | (go_at_call 132; (with_reducible refine HX.out.mono ?_); rintro e W2 ⟨rfl, hb⟩))
    go_loopw [5, 6] (fun iv jv wr => ∃ (i j : Nat), iv = .int .i64 (i : Nat) ∧ jv = .int .i64 (j : Nat) ∧ i < j ∧ j ≤ n ∧ DelS wr gb cap l i j ∧ Below Bl w wr ∧ w.heap.size ≤ wr.heap.size) (fun iv jv _ => n - (intOf jv).toNat)
    case atStart => exact ⟨k0, k0 + 1, rfl, by go_num, by omega, by omega, HD0.out.bl hb, hb.mono hBl, hb.size⟩
    case round =>
      clear hb
      obtain ⟨i, j, rfl, rfl, hij, hjn, hD, hb, hS⟩ := hrel
      by_cases hlt : j < n
      · obtain ⟨cur, hLr, hcs, hpr, hat⟩ := hD.ex
        obtain ⟨s, hs⟩ : ∃ s, l[j]? = some s := ⟨_, List.getElem?_eq_getElem (by rw [HN.out]; exact hlt)⟩
        have hmid : (cur.extract (j * 3) (j * 3 + s.cells.size)).toList = s.cells.toList := by
          apply List.ext_getElem?
          intro c
          rw [Array.getElem?_toList, Array.getElem?_toList, Array.getElem?_extract]
          by_cases hc : c < 3
          · rw [if_pos (by rw [show s.cells.size = 3 from rfl, hcs]; omega), hat j s (Nat.le_refl _) hs c hc]
          · rw [if_neg (by rw [show s.cells.size = 3 from rfl, hcs]; omega), Array.getElem?_eq_none (by show 3 ≤ c; omega)]
        have HS := hide hs
        have HC := hide (fun W => wri1_any s W)
        have HDD := hide hD
        have hgw : gb < wr.heap.size := hLr.lt
        have hfit : i * 3 + 3 ≤ cur.size := by rw [hcs]; have := hD.le; rw [HN.out] at this; omega
        obtain ⟨ND, hND0⟩ : ∃ x, wr.heap.size = x := ⟨_, rfl⟩
        have hND := hide hND0
        rw [hND0] at hgw
        have hd1 : w.heap.size ≤ ND := hND0 ▸ hS
        obtain ⟨bo, hbo⟩ : ∃ x, s.wr = x := ⟨_, rfl⟩
        rw [hbo] at HC
        have HBO := hide hbo
        have hlt' : (j : Int) < (n : Int) := by omega
        clear hs hbo hD hpr hat hND0
        cases bo with
        | false =>
          go_wp2_with (first | ((with_reducible refine ld_sm gb (j * 3) s cur _ hLr hmid ?_ ?_); exact rfl) | ((with_reducible refine al_sp ND ?_ ?_); exact hND.out; intro W hsr hb' hz; have hbc := hND.out ▸ hb'; replace hb := hb.trans (hb'.mono (by omega)); replace hLr := hLr.bl hbc; replace HDD := hide (HDD.out.bl hbc); replace hS := Nat.le_trans hS hbc.size; clear hb' hbc) | ((with_reducible refine st_sp ND _ s hsr ?_ ?_ ?_); exact rfl; exact rfl; intro W hnew ho; replace hLr := hLr.only ho (by omega); replace HDD := hide (HDD.out.only ho (by omega)); replace hb := ho.bel _ _ (by omega) hb; replace hS := (show w.heap.size ≤ W.heap.size by rw [ho.size]; exact hS); replace hsr := hnew; clear hnew ho) | ((with_reducible refine ld_sp ND s hsr ?_ ?_ ?_); exact rfl; exact rfl) | (go_at_call 142; (with_reducible refine (HC.out _).mono ?_); rintro e W2 ⟨rfl, hbc⟩; replace hb := hb.trans (hbc.mono (by omega)); replace hLr := hLr.bl hbc; replace hsr := hsr.bl hbc; replace HDD := hide (HDD.out.bl hbc); replace hS := Nat.le_trans hS hbc.size; clear hbc))
          go_roundw
          case rel => exact ⟨i, j + 1, rfl, by go_num, by omega, by omega, HDD.out.skip HS.out HBO.out, hb, hS⟩
          case measure => simp [intOf]; omega
        | true =>
          go_wp2_with (first | ((with_reducible refine ld_sm gb (j * 3) s cur _ hLr hmid ?_ ?_); exact rfl) | ((with_reducible refine al_sp ND ?_ ?_); exact hND.out; intro W hsr hb' hz; have hbc := hND.out ▸ hb'; replace hb := hb.trans (hb'.mono (by omega)); replace hLr := hLr.bl hbc; replace HDD := hide (HDD.out.bl hbc); replace hS := Nat.le_trans hS hbc.size; clear hb' hbc) | ((with_reducible refine st_sp ND _ s hsr ?_ ?_ ?_); exact rfl; exact rfl; intro W hnew ho; replace hLr := hLr.only ho (by omega); replace HDD := hide (HDD.out.only ho (by omega)); replace hb := ho.bel _ _ (by omega) hb; replace hS := (show w.heap.size ≤ W.heap.size by rw [ho.size]; exact hS); replace hsr := hnew; clear hnew ho) | ((with_reducible refine ld_sp ND s hsr ?_ ?_ ?_); exact rfl; exact rfl) | (go_at_call 142; (with_reducible refine (HC.out _).mono ?_); rintro e W2 ⟨rfl, hbc⟩; replace hb := hb.trans (hbc.mono (by omega)); replace hLr := hLr.bl hbc; replace hsr := hsr.bl hbc; replace HDD := hide (HDD.out.bl hbc); replace hS := Nat.le_trans hS hbc.size; clear hbc) | ((with_reducible refine st_smm gb (i * 3) s cur _ hLr hfit ?_ ?_ ?_); exact rfl; exact rfl; intro W hnew ho; replace HDD := hide (HDD.out.put HS.out HBO.out (by omega) hLr hnew); replace hb := ho.bel _ _ (by omega) hb; replace hS := (show w.heap.size ≤ W.heap.size by rw [ho.size]; exact hS); clear hLr))
          go_roundw
          case rel => exact ⟨i + 1, j + 1, by go_num, by go_num, by omega, by omega, HDD.out, hb, hS⟩
          case measure => simp [intOf]; omega
      · obtain rfl : j = n := by omega
        obtain ⟨cur, hLr, hcs, hpr, hat⟩ := hD.ex
        have htl : l.take j = l := by rw [← HN.out, List.take_length]
        rw [htl] at hpr
        have hlen := hD.len
        rw [htl] at hlen
        have hle := hD.le
        rw [HN.out] at hle
        have HPR := hide hpr
        have HLE := hide hlen
        have hfit : i * 3 + (j - i) * zeroSg.cells.size ≤ cur.size := by rw [hcs, show zeroSg.cells.size = 3 from rfl]; omega
        have hlt' : ¬ (j : Int) < (j : Int) := by omega
        have i1 : (i : Int) < (cap : Int) := by omega
        have i2 : (i : Int) ≤ (j : Int) := by omega
        have i3 : ¬ (cap : Int) = (i : Int) := by omega
        clear hD hpr hat hlen
        go_wp2_with (first | ((with_reducible refine op_clear 100 103 Tryz.underlying100 zeroSg.cells zero_sp (by decide) (by decide) gb (i * 3) (j - i) (cap - i) (by omega) cur _ hLr hfit ?_ ?_); exact rfl; intro W cur' hnew hsz hkeep ho; replace hb := ho.bel _ _ (by omega) hb))
        go_ret
        refine ⟨_, rfl, ⟨by rw [segL_len], .inr ⟨gb, cap, cur', by rw [HLE.out]; rfl, hgB, hnew, by rw [HLE.out]; omega, hc2, by rw [hsz]; exact hcs, ?_⟩⟩, hb⟩
        refine take_pre (fun t u hu => ?_) (segL_len _)
        have htt : t < i * 3 := by have := (List.getElem?_eq_some_iff.1 hu).1; rw [segL_len, HLE.out] at this; exact this
        rw [hkeep t htt]
        exact HPR.out t u hu
set_option maxHeartbeats 1000000 in
theorem written_any (l : List Sg) (hl : l.length ≤ 1000) (hl0 : 0 < l.length) {w : World} {Bl : Nat} {v : Value} (hL : w.ownsRow Bl 103 3 v l.length (segL l)) :
    Calls Tryz.prog 118 #[v] w fun e w' => ∃ v', e = .returned v' ∧ w'.ownsRow w.heap.size 103 3 v' (wriL l).length (segL (wriL l)) ∧ Below w.heap.size w w' := by
  have HC : Hid (Calls Tryz.prog 64 #[v] w fun e w' => ∃ v', e = .returned v' ∧ w'.ownsRow w.heap.size 103 3 v' l.length (segL l) ∧ Below w.heap.size w w') := hide (clone_s l.length (segL l) (segL_ones _) (by omega) hL)
  have HD : Hid (∀ W u, W.ownsRow w.heap.size 103 3 u l.length (segL l) → w.heap.size ≤ W.heap.size → Calls Tryz.prog 141 #[u, .func (.func 142) #[] #[]] W fun e w' => ∃ v', e = .returned v' ∧ w'.ownsRow w.heap.size 103 3 v' (wriL l).length (segL (wriL l)) ∧ Below w.heap.size W w') := hide (fun W u hu hW => delf_any l hl hl0 hu hW)
  clear hL
  go_enter Tryz.func118, Tryz.ntmps118
  go_wp2_with (first | (go_at_call 64; (with_reducible refine HC.out.mono ?_); rintro e W ⟨v1, rfl, hv, hb⟩) | (go_at_call 141; (with_reducible refine (HD.out _ _ hv hb.size).mono ?_); rintro e W2 ⟨v2, rfl, hv2, hb2⟩))
  go_ret
  exact ⟨_, rfl, hv2, hb.trans hb2⟩
end Go.Proofs.YtaaiockiojejeaaGreatDoor
namespace Go.Proofs.YtaaiockiojejeaaGreatDoor
open Go.RowKit
set_option linter.unusedVariables false
set_option linter.unusedSimpArgs false

def lefF : Int → List Sg → Int
  | n, [] => n
  | n, s :: t => lefF (n - if s.n ≤ n then s.n else n) t
theorem firL_app : ∀ (l m : List Sg) (n : Int), firL n (l ++ m) = firL n l ++ firL (lefF n l) m
  | [], m, n => rfl
  | s :: t, m, n => by simp only [List.cons_append, firL, lefF]; rw [firL_app t m]
theorem lefF_app : ∀ (l m : List Sg) (n : Int), lefF n (l ++ m) = lefF (lefF n l) m
  | [], m, n => rfl
  | s :: t, m, n => by simp only [List.cons_append, lefF]; rw [lefF_app t m]
theorem firL_len : ∀ (l : List Sg) (n : Int), (firL n l).length = l.length
  | [], n => rfl
  | s :: t, n => by simp only [firL, List.length_cons]; rw [firL_len t]
theorem lefF_in : ∀ (l : List Sg) (n : Int), (∀ s ∈ l, 0 ≤ s.n) → 0 ≤ n → 0 ≤ lefF n l ∧ lefF n l ≤ n
  | [], n, _, h => ⟨h, Int.le_refl _⟩
  | s :: t, n, hs, h => by
    have h1 := hs s (List.mem_cons_self ..)
    simp only [lefF]
    have := lefF_in t (n - if s.n ≤ n then s.n else n) (fun x hx => hs x (List.mem_cons_of_mem _ hx)) (by split <;> omega)
    refine ⟨this.1, Int.le_trans this.2 ?_⟩
    split <;> omega
theorem firL_ok : ∀ (l : List Sg) (n : Int), (∀ s ∈ l, s.Ok ∧ 0 ≤ s.n) → 0 ≤ n → n ≤ 16 → ∀ s ∈ firL n l, s.Ok ∧ 0 ≤ s.n
  | [], n, _, _, _ => fun s h => by cases h
  | x :: t, n, hs, h0, h1 => fun s h => by
    have hx := hs x (List.mem_cons_self ..)
    have a1 := hx.1.n1
    simp only [firL] at h
    rcases List.mem_cons.1 h with rfl | h
    · refine ⟨⟨hx.1.at', ?_, ?_⟩, ?_⟩
      all_goals (show _; simp only; split <;> omega)
    · exact firL_ok t _ (fun y hy => hs y (List.mem_cons_of_mem _ hy)) (by split <;> omega) (by split <;> omega) s h
theorem segL_set : ∀ (l : List Sg) (k : Nat) (s : Sg) (m : Int), l[k]? = some s → (segL l).set (k * 3 + 1) (.int .i64 m) = segL (l.set k { s with n := m })
  | [], k, s, m, h => by simp at h
  | x :: t, 0, s, m, h => by
    simp only [List.getElem?_cons_zero, Option.some.injEq] at h
    subst h
    show (x.cells.toList ++ segL t).set 1 _ = ({ x with n := m } : Sg).cells.toList ++ segL t
    rw [List.set_append_left _ _ (by show 1 < 3; decide)]
    rfl
  | x :: t, k + 1, s, m, h => by
    have ih := segL_set t k s m (by simpa using h)
    show (x.cells.toList ++ segL t).set ((k + 1) * 3 + 1) _ = x.cells.toList ++ segL (t.set k { s with n := m })
    rw [List.set_append_right _ _ (by show 3 ≤ _; omega), show (k + 1) * 3 + 1 - x.cells.toList.length = k * 3 + 1 by show (k + 1) * 3 + 1 - 3 = _; omega, ih]
/-- The first k cut, the others as they are. -/
def cutK (n : Int) (l : List Sg) (k : Nat) : List Sg := firL n (l.take k) ++ l.drop k
theorem cutK_at {n : Int} {l : List Sg} {k : Nat} {s : Sg} (h : l[k]? = some s) : (cutK n l k)[k]? = some s := by
  have hk := (List.getElem?_eq_some_iff.1 h).1
  unfold cutK
  rw [List.getElem?_append_right (by rw [firL_len, List.length_take]; omega), firL_len, List.length_take, Nat.min_eq_left (by omega), Nat.sub_self, List.getElem?_drop]
  exact h
theorem cutK_step {n : Int} {l : List Sg} {k : Nat} {s : Sg} {m : Int} (h : l[k]? = some s) (hm : m = if s.n ≤ lefF n (l.take k) then s.n else lefF n (l.take k)) : (cutK n l k).set k { s with n := m } = cutK n l (k + 1) ∧ lefF n (l.take (k + 1)) = lefF n (l.take k) - m := by
  have hk := (List.getElem?_eq_some_iff.1 h).1
  have ht : l.take (k + 1) = l.take k ++ [s] := by rw [List.take_add_one, h]; rfl
  have hd : l.drop k = s :: l.drop (k + 1) := by rw [List.drop_eq_getElem_cons hk, (List.getElem?_eq_some_iff.1 h).2]
  refine ⟨?_, by rw [ht, lefF_app]; simp only [lefF]; rw [← hm]⟩
  unfold cutK
  rw [ht, firL_app, hd, List.set_append_right _ _ (by rw [firL_len, List.length_take]; omega), firL_len, List.length_take, Nat.min_eq_left (by omega), Nat.sub_self]
  simp only [List.set_cons_zero, firL]
  rw [← hm, List.append_assoc]
  rfl
variable {ops : Array Oper} {rest : List Oper} {dst : Option Tmp} {ty : TypeId} {pos : String} {after : Array Edge} {a : Act} {w : World} {Q : Exit → Act → World → Prop} {x y : Operand}
theorem ld_segn (b j : Nat) (z : Int) (cur : Array Value) (t' : TypeId) (hr : RowAt w b cur t') (hv : cur[j]? = some (.int .i64 z)) (hx : a.eval x = .pointer (some ⟨b, j, none⟩))
    (k : wpList Tryz.prog ops Q rest (a.put dst (.int .i64 z)) w) : wpList Tryz.prog ops Q (⟨dst, .load 3 x, ty, pos, after, none⟩ :: rest) a w :=
  op_load_cell b j hx cur _ _ hr hv _ Tryz.underlying3 rfl k
theorem st_segn (b j : Nat) (z : Int) (cur : Array Value) (t' : TypeId) (hr : RowAt w b cur t') (hs : j < cur.size) (hx : a.eval x = .pointer (some ⟨b, j, none⟩)) (hy : a.eval y = .int .i64 z)
    (k : ∀ W, RowAt W b (cur.setIfInBounds j (.int .i64 z)) t' → Only b w W → wpList Tryz.prog ops Q rest (a.put dst undef) W) : wpList Tryz.prog ops Q (⟨dst, .store 3 x y, ty, pos, after, none⟩ :: rest) a w :=
  op_store_cell b j hx _ hy cur _ _ hr size_i64i hs rfl rfl k
set_option maxHeartbeats 2000000 in
theorem first_any (l : List Sg) (hl : l.length ≤ 1000) (hl0 : 0 < l.length) (hw : ∀ s ∈ l, s.Ok ∧ 0 ≤ s.n) {w : World} {Bl : Nat} {v : Value} (hL : w.ownsRow Bl 103 3 v l.length (segL l)) :
    Calls Tryz.prog 71 #[v, .int .i64 16] w fun e w' => ∃ v', e = .returned v' ∧ w'.ownsRow w.heap.size 103 3 v' l.length (segL (firL 16 l)) ∧ Below w.heap.size w w' := by
  have HC : Hid (Calls Tryz.prog 64 #[v] w fun e w' => ∃ v', e = .returned v' ∧ w'.ownsRow w.heap.size 103 3 v' l.length (segL l) ∧ Below w.heap.size w w') := hide (clone_s l.length (segL l) (segL_ones _) (by omega) hL)
  obtain ⟨n, hn⟩ : ∃ n, l.length = n := ⟨_, rfl⟩
  have HN := hide hn
  rw [hn] at HC hl hl0 ⊢
  clear hL hn
  go_enter Tryz.func71, Tryz.ntmps71
  go_wp2_with (first | (go_at_call 64; (with_reducible refine HC.out.mono ?_); rintro e W2 ⟨v1, rfl, hv, hb⟩; obtain ⟨gb, c1, cur0, rfl, hc1, hc2, hgB, _, _, _⟩ := own_row hv hl0))
  go_loopw [1, 11] (fun nv iv wr => ∃ (k : Nat), k ≤ n ∧ iv = .int .i64 (k : Nat) ∧ nv = .int .i64 (lefF 16 (l.take k)) ∧ wr.ownsRow w.heap.size 103 3 (.slice (some ⟨gb, 0, none⟩) n c1) n (segL (cutK 16 l k)) ∧ Below w.heap.size w wr) (fun nv iv _ => n - (intOf iv).toNat)
  case atStart => exact ⟨0, Nat.zero_le _, rfl, rfl, hv, hb⟩
  case round =>
    clear hv hb HC
    obtain ⟨k, hk, rfl, rfl, hv, hb⟩ := hrel
    by_cases hlt : k < n
    · obtain ⟨gb', cap', cur, hve, _, _, _, hLr, hcs, htk⟩ := own_row hv (show 0 < n by omega)
      obtain ⟨rfl, rfl⟩ : gb = gb' ∧ c1 = cap' := by injection hve with e1 e2 e3; injection e1 with e1; injection e1 with e1; exact ⟨e1, e3⟩
      obtain ⟨s, hs⟩ : ∃ s, l[k]? = some s := ⟨_, List.getElem?_eq_getElem (by rw [HN.out]; exact hlt)⟩
      obtain ⟨hok, hs0⟩ := hw s (List.mem_of_getElem? hs)
      have ok1 := hok.n1
      obtain ⟨f0, f1⟩ := lefF_in (l.take k) 16 (fun x hx => (hw x (List.mem_of_mem_take hx)).2) (by decide)
      obtain ⟨m, hm⟩ : ∃ m, m = if s.n ≤ lefF 16 (l.take k) then s.n else lefF 16 (l.take k) := ⟨_, rfl⟩
      obtain ⟨hst, hlf⟩ := cutK_step hs hm
      have hmb : 0 ≤ m ∧ m ≤ lefF 16 (l.take k) := by rw [hm]; split <;> omega
      have hcu : cur[k * 3 + 1]? = some (.int .i64 s.n) := by
        have := segL_at (cutK 16 l k) k s (cutK_at hs) 1 (by decide)
        rw [← htk, List.getElem?_take] at this
        split at this
        · rw [← Array.getElem?_toList]; exact this
        · simp [Sg.cells] at this
      have hcl : k * 3 + 1 < cur.size := by rw [hcs]; omega
      have hcu2 : (cur.setIfInBounds (k * 3 + 1) (.int .i64 m))[k * 3 + 1]? = some (.int .i64 m) := Array.getElem?_setIfInBounds_self_of_lt hcl
      have hsg := segL_set (cutK 16 l k) k s m (cutK_at hs)
      rw [hst] at hsg
      have HSG := hide hsg
      have HLF := hide hlf
      have emin : min s.n (lefF 16 (l.take k)) = m := by rw [hm, Int.min_def]
      have emi2 : Hid ((if s.n ≤ lefF 16 (l.take k) then s.n else lefF 16 (l.take k)) = m) := hide hm.symm
      have HV := hide hv
      generalize lefF 16 (l.take k) = nl at *
      have hlt' : (k : Int) < (n : Int) := by omega
      clear hst hsg hlf hs hok htk hve hv hm
      go_wp2_with (first | ((with_reducible refine ld_segn gb (k * 3 + 1) s.n cur _ hLr hcu ?_ ?_); exact rfl) | ((with_reducible refine st_segn gb (k * 3 + 1) m cur _ hLr hcl ?_ ?_ ?_); exact rfl; (first | exact rfl | (exact congrArg _ emi2.out)); intro W hnew ho; have HV2 := hide (own_set HV.out rfl hLr hnew); replace hb := ho.bel _ _ (by omega) hb; clear hLr hcu) | ((with_reducible refine ld_segn gb (k * 3 + 1) m _ _ hnew hcu2 ?_ ?_); exact rfl))
      go_roundw
      case rel => exact ⟨k + 1, hlt, by go_num, by rw [HLF.out], by rw [← HSG.out]; exact HV2.out, hb⟩
      case measure => simp [intOf]; omega
    · obtain rfl : k = n := by omega
      have ht : cutK 16 l k = firL 16 l := by unfold cutK; rw [← HN.out, List.take_length, List.drop_length, List.append_nil]
      rw [ht] at hv
      go_wp2
      go_ret
      exact ⟨_, rfl, hv, hb⟩
end Go.Proofs.YtaaiockiojejeaaGreatDoor
namespace Go.Proofs.YtaaiockiojejeaaGreatDoor
open Go.RowKit
set_option linter.unusedVariables false
set_option linter.unusedSimpArgs false

theorem inS_less {p : Nat} {s : Sg} {n : Int} (h : inS p s = true) (h0 : 0 ≤ n) (hn : n ≤ s.n) : inS p { s with n := n } = true := by
  unfold inS plB at *
  have := of_decide_eq_true h
  exact decide_eq_true (by simp only; omega)
theorem parts_inS {p : Nat} (wr : Bool) : ∀ (l : List Sg) (n : Int), (∀ s ∈ l, inS p s = true) → (partsV wr n l).all (inS p) = true
  | [], n, h => rfl
  | s :: t, n, h => by
    have ht := fun n => parts_inS wr t n (fun x hx => h x (List.mem_cons_of_mem _ hx))
    simp only [partsV]
    split
    · rename_i hx
      rw [List.all_cons, ht, Bool.and_true]
      exact inS_less (h s (List.mem_cons_self ..)) (by split <;> omega) (by split <;> omega)
    · exact ht n
theorem firs_inS {p : Nat} : ∀ (l : List Sg) (n : Int), 0 ≤ n → (∀ s ∈ l, inS p s = true ∧ 0 ≤ s.n) → ∀ s ∈ firL n l, inS p s = true
  | [], n, _, h => fun s hs => by cases hs
  | x :: t, n, h0, h => fun s hs => by
    have hx := h x (List.mem_cons_self ..)
    simp only [firL] at hs
    rcases List.mem_cons.1 hs with rfl | hs
    · exact inS_less hx.1 (by split <;> omega) (by split <;> omega)
    · exact firs_inS t _ (by split <;> omega) (fun y hy => h y (List.mem_cons_of_mem _ hy)) s hs
theorem odd_parts (p : Nat) : ∀ (l : List (Nat → Nat)) (tot : Nat) (wr : Bool), oddL p tot wr l = false → (∀ g ∈ l, inS p (sgOf g) = true) ∧ (0 < l.length → tot + (l.map fun g => g 2).sum ≤ 1048576)
  | [], tot, wr, h => ⟨fun g hg => (by cases hg), fun h => absurd h (by decide)⟩
  | g :: t, tot, wr, h => by
    simp only [oddL, oddD, Bool.or_eq_false_iff, decide_eq_false_iff_not, Bool.not_eq_false'] at h
    obtain ⟨⟨_, h2, _, _, h5⟩, h6⟩ := h
    obtain ⟨i1, i2⟩ := odd_parts p t _ _ h6
    refine ⟨fun x hx => ?_, fun _ => ?_⟩
    · rcases List.mem_cons.1 hx with rfl | hx
      · exact h5
      · exact i1 x hx
    · simp only [List.map_cons, List.sum_cons]
      cases t with
      | nil => simp; omega
      | cons y t => have := i2 (by simp); omega
/-- What is so of the parts of a chain. -/
structure PartsOk (p : Nat) (ps : List Sg) : Prop where
  ok : ∀ s ∈ ps, s.Ok ∧ 0 ≤ s.n
  ins : ∀ s ∈ ps, inS p s = true
  len : ps.length ≤ 256
  pos : 0 < ps.length
  tot : (ps.map fun s => s.n.toNat).sum ≤ 1048576
theorem walk_parts {p : Nat} {f : Nat → Nat} {r : Rg} {hd : Int} {ps : List Sg} (hf : ∀ x, f x < 256) (hc : chkR r = true) (h : walkV p f r hd = some ps) : PartsOk p ps := by
  unfold walkV at h
  cases hfo : followV p f r r.sz.toNat hd with
  | none => rw [hfo] at h; cases h
  | some l =>
    rw [hfo] at h
    simp only at h
    cases ho : oddL p 0 false l with
    | true => rw [ho] at h; simp at h
    | false =>
      rw [ho] at h
      simp at h
      subst h
      obtain ⟨k, hk, hk0, hk1⟩ := chkR_sz hc
      obtain ⟨h1, h2⟩ := follow_len _ _ _ hfo
      rw [hk, Int.toNat_natCast] at h1
      have hw := follow_words hf _ _ _ hfo
      obtain ⟨i1, i2⟩ := odd_parts p l 0 false ho
      refine ⟨fun s hs => ?_, fun s hs => ?_, by rw [List.length_map]; omega, by rw [List.length_map]; exact h2, ?_⟩
      · obtain ⟨g, hg, rfl⟩ := List.mem_map.1 hs
        have a0 := hw g hg 0
        have a2 := hw g hg 2
        exact ⟨⟨a0, by show (_ : Int) ≤ ((g 2 : Nat) : Int); omega, by show ((g 2 : Nat) : Int) ≤ _; omega⟩, by show (0 : Int) ≤ ((g 2 : Nat) : Int); omega⟩
      · obtain ⟨g, hg, rfl⟩ := List.mem_map.1 hs
        exact i1 g hg
      · rw [List.map_map]
        have e : ((fun s => s.n.toNat) ∘ sgOf) = fun g : Nat → Nat => g 2 := by funext g; show ((g 2 : Nat) : Int).toNat = _; simp
        rw [e]
        have := i2 h2
        omega
end Go.Proofs.YtaaiockiojejeaaGreatDoor
namespace Go.Proofs.YtaaiockiojejeaaGreatDoor
open Go.RowKit
set_option linter.unusedVariables false
set_option linter.unusedSimpArgs false

def lv0 : Bk := ⟨zeroV, 100, true, 0, []⟩
def lv1 : Bk := ⟨zeroV.stw 15, 100, true, 0, []⟩
def lv2 : Bk := ⟨(zeroV.stw 15).d1w 1, 100, true, 0, []⟩
def lvQ : Qu := ⟨true, lR 0 0⟩
variable {ops : Array Oper} {rest : List Oper} {dst : Option Tmp} {ty : TypeId} {pos : String} {after : Array Edge} {a : Act} {w : World} {Q : Exit → Act → World → Prop} {x y : Operand}
theorem st_l1 (b : Nat) (t' : TypeId) (hr : RowAt w b (lv0.c nilS) t') (hx : a.eval x = .pointer (some ⟨b, 0, none⟩)) (hy : a.eval y = .int .u32 15)
    (k : ∀ W, RowAt W b (lv1.c nilS) t' → Only b w W → wpList Tryz.prog ops Q rest (a.put dst undef) W) : wpList Tryz.prog ops Q (⟨dst, .store 22 x y, ty, pos, after, none⟩ :: rest) a w :=
  op_store_cell b 0 hx _ hy (lv0.c nilS) _ _ hr size_u32i (by show 0 < 25; decide) rfl rfl k
theorem st_l2 (b : Nat) (t' : TypeId) (hr : RowAt w b (lv1.c nilS) t') (hx : a.eval x = .pointer (some ⟨b, 5, none⟩)) (hy : a.eval y = .agg #[.int .u32 0, .int .u32 1])
    (k : ∀ W, RowAt W b (lv2.c nilS) t' → Only b w W → wpList Tryz.prog ops Q rest (a.put dst undef) W) : wpList Tryz.prog ops Q (⟨dst, .store 23 x y, ty, pos, after, none⟩ :: rest) a w :=
  op_store_mid b 5 hx #[.int .u32 0, .int .u32 1] hy (lv1.c nilS) _ _ hr size_drv (by show 5 + 2 ≤ 25; decide) (by simp [Value.oneCell']) (by kernel_rfl) k
theorem st_l3 (b : Nat) (t' : TypeId) (hr : RowAt w b (lv2.c nilS) t') (hx : a.eval x = .pointer (some ⟨b, 7, none⟩)) (hy : a.eval y = .agg lvQ.cells)
    (k : ∀ W, RowAt W b (lvS.c nilS) t' → Only b w W → wpList Tryz.prog ops Q rest (a.put dst undef) W) : wpList Tryz.prog ops Q (⟨dst, .store 47 x y, ty, pos, after, none⟩ :: rest) a w :=
  op_store_mid b 7 hx lvQ.cells hy (lv2.c nilS) _ _ hr size_qp (by show 7 + 7 ≤ 25; decide) (by kernel_rfl) (by kernel_rfl) k
set_option maxHeartbeats 1000000 in
theorem blive_any (w : World) : Calls Tryz.prog 20 #[] w fun e w' => e = .returned (.agg (lvS.c nilS)) ∧ Below w.heap.size w w' := by
  go_enter Tryz.func20, Tryz.ntmps20
  go_wp2_with (first | ((with_reducible refine al_bk w.heap.size ?_ ?_); exact rfl; intro W hq hb hz) | ((with_reducible refine al_bk (w.heap.size + 1) ?_ ?_); exact hz.out; intro W hr hb' hz'; replace hq := hq.bl (hz.out ▸ hb'); replace hb := hb.trans (hb'.mono (by omega)); clear hb' hz') | ((with_reducible refine st_bk (w.heap.size + 1) _ _ lv0 nilS rfl hr ?_ ?_ ?_); exact rfl; exact rfl; intro W hnew ho; replace hb := ho.bel _ _ (by omega) hb; replace hq := hq.only ho (by omega); replace hr := hnew; clear hnew ho) | ((with_reducible refine st_l1 (w.heap.size + 1) _ hr ?_ ?_ ?_); exact rfl; exact rfl; intro W hnew ho; replace hb := ho.bel _ _ (by omega) hb; replace hq := hq.only ho (by omega); clear hr; have hr := hnew; clear hnew ho) | ((with_reducible refine st_l2 (w.heap.size + 1) _ hr ?_ ?_ ?_); exact rfl; exact rfl; intro W hnew ho; replace hb := ho.bel _ _ (by omega) hb; replace hq := hq.only ho (by omega); clear hr; have hr := hnew; clear hnew ho) | ((with_reducible refine st_l3 (w.heap.size + 1) _ hr ?_ ?_ ?_); exact rfl; exact rfl; intro W hnew ho; replace hb := ho.bel _ _ (by omega) hb; replace hq := hq.only ho (by omega); clear hr; have hr := hnew; clear hnew ho) | ((with_reducible refine ld_bk (w.heap.size + 1) lvS nilS hr ?_ ?_ ?_); exact rfl; exact rfl) | ((with_reducible refine st_bk w.heap.size _ _ lvS nilS rfl hq ?_ ?_ ?_); exact rfl; exact rfl; intro W hnew ho; replace hb := ho.bel _ _ (by omega) hb; replace hq := hnew; clear hnew ho))
  refine bodyPost_ret (results_cell_row Tryz.results20 _ _ w.heap.size _ _ _ _ rfl hq Tryz.underlying53 rfl size_bk) rfl ?_
  exact ⟨rfl, hb⟩
end Go.Proofs.YtaaiockiojejeaaGreatDoor
