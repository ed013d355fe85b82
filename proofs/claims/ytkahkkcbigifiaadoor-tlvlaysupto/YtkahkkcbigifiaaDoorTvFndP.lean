/-
  Find: tlv's own.
-/
import Derived.Test.YtkahkkcbigifiaaDoorTvLay
import Derived.Great.Walk
import Derived.Laws.ByValue
namespace Go.Proofs.YtkahkkcbigifiaaDoor
open Go.RowKit
set_option linter.unusedVariables false
set_option linter.unusedSimpArgs false

variable {P : Program} {ops : Array Oper} {rest : List Oper} {dst : Option Tmp} {ty t t2 : TypeId} {pos : String} {after : Array Edge} {a : Act} {w : World} {Q : Exit → Act → World → Prop} {K : Act → World → Prop} {x y z : Operand} {gd : Option (Nat × Bool)}
theorem op_boxT (N : Nat) (hN : w.heap.size = N) (cs : Array Value) (hx : (a.eval x).cells = cs)
    (k : ∀ W, RowAt W N cs t → Below N w W → Hid (W.heap.size = N + 1) → wpList P ops Q rest (a.put dst (.pointer (some ⟨N, 0, none⟩))) W) :
    wpList P ops Q (⟨dst, .box t x, ty, pos, after, none⟩ :: rest) a w := by
  subst hN
  exact Great.wpList_boxTo rfl t x rfl dst rfl _ rfl cs hx (k _ (RowAt.new w _ cs t rfl) (below_one w _) (hide (by simp)))
theorem ld_u32c (b : Nat) (v : Int) (t' : TypeId) (hr : RowAt w b #[.int .u32 v] t') (hx : a.eval x = .pointer (some ⟨b, 0, none⟩))
    (k : wpList Tryd.prog ops Q rest (a.put dst (.int .u32 v)) w) : wpList Tryd.prog ops Q (⟨dst, .load 22 x, ty, pos, after, none⟩ :: rest) a w :=
  op_load_cell b 0 hx #[.int .u32 v] _ _ hr rfl _ Tryd.underlying22 rfl k
theorem ld_tg {N : Nat} {p q : Value} {t' : TypeId} (hr : RowAt w N #[p, q] t') (hx : a.eval x = .pointer (some ⟨N, 0, none⟩)) (k : wpList Tryd.prog ops Q rest (a.put dst p) w) : wpList Tryd.prog ops Q (⟨dst, .load 22 x, ty, pos, after, none⟩ :: rest) a w :=
  op_load_cell N 0 hx _ p _ hr rfl _ Tryd.underlying22 rfl k
theorem castE (a b : Nat) : ((a : Int) == (b : Int)) = (a == b) := by
  by_cases h : a = b
  · subst h; simp
  · have : ((a : Int) == (b : Int)) = false := by simp; omega
    rw [this]; simp [h]
set_option maxRecDepth 100000 in
set_option maxHeartbeats 4000000 in
theorem find1_any (tg tag Ib : Nat) (ad : Option Addr) (n cap : Nat) (t' : TypeId) (w : World) (hI : RowAt w Ib #[.int .u32 (tag : Nat)] t') :
    Calls Tryd.prog 40 #[.agg #[.int .u32 (tg : Nat), .slice ad n cap], .pointer (some ⟨Ib, 0, none⟩)] w fun e w' => e = .returned (.bool (tg == tag)) ∧ Below w.heap.size w w' := by
  have HC := hide (castE tg tag)
  go_enter Tryd.func40, Tryd.ntmps40
  go_wp2_with (first | ((with_reducible refine op_boxT w.heap.size ?_ (#[.int .u32 (tg : Nat), .slice ad n cap] : Array Value) ?_ ?_); exact rfl; exact rfl; intro W hr hb hz; replace hI := hI.bl hb) | ((with_reducible refine ld_tg hr ?_ ?_); exact rfl) | ((with_reducible refine ld_u32c Ib _ _ hI ?_ ?_); exact rfl))
  go_ret
  exact ⟨by rw [← HC.out]; rfl, hb⟩
def idxL (tag : Nat) (L : List Sct) : Int := match L.findIdx? (fun s => s.tag == tag) with
  | some k => (k : Nat)
  | none => -1
theorem idx_hit {tag : Nat} {L : List Sct} {k : Nat} (hk : k < L.length) (h : L[k].tag = tag) (hno : ∀ j (hj : j < L.length), j < k → L[j].tag ≠ tag) : idxL tag L = (k : Int) := by
  unfold idxL
  have : L.findIdx? (fun s => s.tag == tag) = some k := by
    rw [List.findIdx?_eq_some_iff_getElem]
    exact ⟨hk, by simpa using h, fun j hj => by simpa using hno j (by omega) hj⟩
  rw [this]
theorem idx_none {tag : Nat} {L : List Sct} (hno : ∀ j (hj : j < L.length), L[j].tag ≠ tag) : idxL tag L = -1 := by
  unfold idxL
  have : L.findIdx? (fun s => s.tag == tag) = none := by
    rw [List.findIdx?_eq_none_iff]
    intro s hs
    obtain ⟨j, hj, rfl⟩ := List.getElem_of_mem hs
    simpa using hno j hj
  rw [this]
theorem idx_or (tag : Nat) (L : List Sct) : (∃ k, ∃ hk : k < L.length, L[k].tag = tag ∧ ∀ j (hj : j < L.length), j < k → L[j].tag ≠ tag) ∨ ∀ j (hj : j < L.length), L[j].tag ≠ tag := by
  cases h : L.findIdx? (fun s => s.tag == tag) with
  | none =>
    rw [List.findIdx?_eq_none_iff] at h
    exact .inr fun j hj => by simpa using h _ (List.getElem_mem hj)
  | some k =>
    rw [List.findIdx?_eq_some_iff_getElem] at h
    obtain ⟨hk, h1, h2⟩ := h
    exact .inl ⟨k, hk, by simpa using h1, fun j hj hjk => by simpa using h2 j hjk⟩
def IxRel (tag n N : Nat) (L : List Sct) (w0 : World) (iv : Value) (wr : World) : Prop := ∃ k : Nat, k ≤ n ∧ iv = .int .i64 (k : Nat) ∧ (∀ j (hj : j < L.length), j < k → L[j].tag ≠ tag) ∧ Below N w0 wr
set_option maxRecDepth 100000 in
set_option maxHeartbeats 4000000 in
theorem idx_any {B : Nat} {v : Value} {L : List Sct} (tag Ib : Nat) (t' : TypeId) (w : World) (h : Secs B w v L) (hB : B ≤ w.heap.size) (hI : RowAt w Ib #[.int .u32 (tag : Nat)] t') :
    Calls Tryd.prog 39 #[v, .func (.func 40) #[] #[.pointer (some ⟨Ib, 0, none⟩)]] w fun e w' => e = .returned (.int .i64 (idxL tag L)) ∧ Below w.heap.size w w' := by
  obtain ⟨n, hn⟩ : ∃ n, L.length = n := ⟨_, rfl⟩
  have HN := hide hn
  have HSE := hide h
  have HI := hide hI
  obtain ⟨ad, cap, rfl, hcap, hmax⟩ := h.form
  rw [hn] at hcap ⊢
  obtain ⟨z, hz⟩ : ∃ z, idxL tag L = z := ⟨_, rfl⟩
  have HZ := hide hz
  rw [hz]
  have hb : Below w.heap.size w w := Below.refl _ w
  clear h hn hI hz
  go_enter Tryd.func39, Tryd.ntmps39
  go_wp2
  go_loopw [8] (IxRel tag n w.heap.size L w) (fun iv _ => n - (intOf iv).toNat)
  case atStart => exact ⟨0, Nat.zero_le _, rfl, fun j _ h => absurd h (by omega), hb⟩
  case round =>
    clear hb
    obtain ⟨k, hk, rfl, hno, hb⟩ := hrel
    have HNO := hide hno
    clear hno
    by_cases hlt : k < n
    · obtain ⟨b, off, cap', hv, _, _, hbB, HC⟩ := HSE.out.all (by have := HN.out; omega)
      injection hv with hv hv2 hv3
      subst hv hv3
      clear hv2
      have hkl : k < L.length := by have := HN.out; omega
      obtain ⟨c1, u, c2, c3⟩ := HC.out k hkl
      obtain ⟨au, cu, hu, _, _⟩ := c3.form
      subst hu
      have HC0 := hide ((hb.cell (p := ⟨b, off + k * 2, none⟩) (Nat.lt_of_lt_of_le hbB hB)).trans c1)
      have HC1 := hide ((hb.cell (p := ⟨b, off + k * 2 + 1, none⟩) (Nat.lt_of_lt_of_le hbB hB)).trans c2)
      have HF := hide (fun W hIW => find1_any L[k].tag tag Ib au L[k].b.length cu t' W hIW)
      have HIR := hide (HI.out.bl hb)
      clear c1 c2 c3
      by_cases he : L[k].tag = tag
      · have HHIT := hide (idx_hit hkl he HNO.out)
        have hbq : (L[k].tag == tag) = true := by simpa using he
        rw [hbq] at HF
        generalize L[k].b.length = ln at *
        generalize L[k].tag = tg at *
        clear hbq he
        go_wp2_with (first | ((with_reducible refine op_ldt b (off + k * 2) tg (.slice au ln cu) HC0.out HC1.out ?_ ?_); exact rfl) | (go_at_call 40; (with_reducible refine (HF.out _ HIR.out).mono ?_); rintro e W2 ⟨rfl, hb2⟩; replace hb := below_bl rfl hb hb2; clear hb2))
        go_ret
        exact ⟨by rw [← HZ.out, HHIT.out]; rfl, hb⟩
      · have HNE := hide he
        have hbq : (L[k].tag == tag) = false := by simpa using he
        rw [hbq] at HF
        generalize L[k].b.length = ln at *
        obtain ⟨tg, htg⟩ : ∃ q, L[k].tag = q := ⟨_, rfl⟩
        rw [htg] at HC0 HF
        have HTG := hide htg
        clear hbq he htg
        go_wp2_with (first | ((with_reducible refine op_ldt b (off + k * 2) tg (.slice au ln cu) HC0.out HC1.out ?_ ?_); exact rfl) | (go_at_call 40; (with_reducible refine (HF.out _ HIR.out).mono ?_); rintro e W2 ⟨rfl, hb2⟩; replace hb := below_bl rfl hb hb2; clear hb2))
        go_roundw
        case rel => exact ⟨k + 1, hlt, by go_num, (fun j hj hjk => by
          by_cases hje : j = k
          · subst hje; exact HNE.out
          · exact HNO.out j hj (by omega)), hb⟩
        case measure => simp [intOf]; omega
    · obtain rfl : k = n := by omega
      have HZN := hide (idx_none (tag := tag) (L := L) fun j hj => HNO.out j hj (by have := HN.out; omega))
      go_wp2
      go_ret
      exact ⟨by rw [← HZ.out, HZN.out]; rfl, hb⟩
set_option maxRecDepth 100000 in
set_option maxHeartbeats 4000000 in
theorem find_any {B : Nat} {v : Value} {L : List Sct} (w : World) (h : Secs B w v L) (hB : B ≤ w.heap.size) (tag : Nat) (ht : tag < 4294967296) (hsz : sizeL L ≤ 140737488355328) :
    Calls Tryd.prog 14 #[v, .int .u32 (tag : Nat)] w fun e w' => ∃ u, e = .returned (.tuple #[u, errS (findE tag L)]) ∧ Rd w'.heap.size w' u (findB tag L) ∧ Below w.heap.size w w' := by
  obtain ⟨n, hn⟩ : ∃ n, L.length = n := ⟨_, rfl⟩
  have HN := hide hn
  have HSE := hide h
  obtain ⟨ad, cap, rfl, hcap, hmax⟩ := h.form
  have HX := hide (fun (W : World) (Ib : Nat) (t' : TypeId) hS hb' hI => idx_any (B := B) (v := .slice ad L.length cap) (L := L) tag Ib t' W hS hb' hI)
  have hsn := h
  rw [hn] at hcap HX hsn ⊢
  have HSN := hide hsn
  have hb : Below w.heap.size w w := Below.refl _ w
  rcases idx_or tag L with ⟨k, hk, he, hno⟩ | hno
  · obtain ⟨hfe, hfb⟩ := find_at tag L k hk hno he
    have HE := hide hfe
    rw [idx_hit hk he hno] at HX
    obtain ⟨b, off, cap', hv, _, _, hbB, HC⟩ := HSE.out.all (by omega)
    injection hv with hv hv2 hv3
    subst hv hv3
    clear hv2
    obtain ⟨c1, u, c2, c3⟩ := HC.out k hk
    obtain ⟨au, cu, hu, _, _⟩ := c3.form
    subst hu
    have hbl := b_le L _ (List.getElem_mem hk)
    obtain ⟨lb, hlb⟩ : ∃ q, L[k].b = q := ⟨_, rfl⟩
    rw [hlb] at c2 c3 hbl hfb
    have HC1 := hide c2
    have HFB := hide hfb
    have HCL := hide (fun (W : World) hR hb' => clone_any (B := B) (v := .slice au lb.length cu) (l := lb) W hR hb' (by omega))
    have HR := hide c3
    have hkn : k < n := by omega
    clear h hsn hfe hfb he hno c1 c2 c3 hbl hn
    rw [HFB.out]
    clear hlb
    go_enter Tryd.func14, Tryd.ntmps14
    go_wp2_with (first | ((with_reducible refine op_boxT w.heap.size ?_ (#[.int .u32 (tag : Nat)] : Array Value) ?_ ?_); exact rfl; exact rfl; intro W hI hb hz) | (go_at_call 39; (with_reducible refine (HX.out _ _ _ (HSN.out.bel (hb.mono hB)) (Nat.le_trans hB hb.size) hI).mono ?_); rintro e W2 ⟨rfl, hb2⟩; replace hb := below_bl rfl hb hb2; clear hb2; have hc9 := (hb.cell (p := ⟨b, off + k * 2 + 1, none⟩) (Nat.lt_of_lt_of_le hbB hB)).trans HC1.out) | (go_at_call 41; (with_reducible refine (HCL.out _ (HR.out.bel (hb.mono hB)) (Nat.le_trans hB hb.size)).mono ?_); rintro e W3 ⟨vq, rfl, hown, hb2⟩; replace hb := below_bl rfl hb hb2; clear hb2))
    go_ret2
    exact ⟨_, by rw [HE.out]; rfl, hown.rd, hb⟩
  · have HE := hide (find_not tag L hno)
    have HFB := hide (show findB tag L = [] by
      have h8 := find_not tag L hno
      unfold findE at h8
      unfold findB
      cases hf : findF tag L with
      | none => rfl
      | some q => rw [hf] at h8; cases h8)
    rw [idx_none hno] at HX
    clear h hsn hno hn
    rw [HFB.out]
    go_enter Tryd.func14, Tryd.ntmps14
    go_wp2_with (first | ((with_reducible refine op_boxT w.heap.size ?_ (#[.int .u32 (tag : Nat)] : Array Value) ?_ ?_); exact rfl; exact rfl; intro W hI hb hz) | (go_at_call 39; (with_reducible refine (HX.out _ _ _ (HSN.out.bel (hb.mono hB)) (Nat.le_trans hB hb.size) hI).mono ?_); rintro e W2 ⟨rfl, hb2⟩; replace hb := below_bl rfl hb hb2; clear hb2))
    go_ret2
    exact ⟨_, by rw [HE.out]; rfl, Rd.nil _ _, hb⟩
end Go.Proofs.YtkahkkcbigifiaaDoor
