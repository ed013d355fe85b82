/-
  What ring's Room answers.
-/
import Derived.Test.YtaaiockiojejeaaGreatDoorJH21
import Derived.Test.YtaaiockiojejeaaGreatDoorJH11
import Derived.Test.YtaaiockiojejeaaGreatDoorJH9
namespace Go.Proofs.YtaaiockiojejeaaGreatDoor
open Go.RowKit
set_option linter.unusedVariables false
set_option linter.unusedSimpArgs false

theorem op_box1 {P : Program} {ops : Array Oper} {rest : List Oper} {dst : Option Tmp} {ty t : TypeId} {pos : String} {after : Array Edge} {a : Act} {w : World} {Q : Exit → Act → World → Prop} {x : Operand} (N : Nat) (hN : w.heap.size = N) (v : Value) (hx : a.eval x = v) (hv : v.cells = #[v])
    (k : ∀ W, RowAt W N #[v] t → Below N w W → Hid (W.heap.size = N + 1) → wpList P ops Q rest (a.put dst (.pointer (some ⟨N, 0, none⟩))) W) :
    wpList P ops Q (⟨dst, .box t x, ty, pos, after, none⟩ :: rest) a w := by
  subst hN
  exact Great.wpList_boxTo rfl t x rfl dst rfl _ rfl #[v] (by rw [hx, hv]) (k _ (RowAt.new w _ #[v] t rfl) (below_one w _) (hide (by simp)))
/-- The parts that the first n bytes stand in. -/
def partsV (wr : Bool) : Int → List Sg → List Sg
  | _, [] => []
  | n, s :: t => if s.wr = wr ∧ 0 < s.n ∧ 0 < n then { s with n := if s.n ≤ n then s.n else n } :: partsV wr (n - if s.n ≤ n then s.n else n) t else partsV wr n t
/-- How many bytes are left behind the parts of l. -/
def leftV (wr : Bool) : Int → List Sg → Int
  | n, [] => n
  | n, s :: t => if s.wr = wr ∧ 0 < s.n ∧ 0 < n then leftV wr (n - if s.n ≤ n then s.n else n) t else leftV wr n t
theorem partsV_app (wr : Bool) : ∀ (l m : List Sg) (n : Int), partsV wr n (l ++ m) = partsV wr n l ++ partsV wr (leftV wr n l) m
  | [], m, n => rfl
  | s :: t, m, n => by
    simp only [List.cons_append, partsV, leftV]
    split
    · rw [partsV_app wr t m]; rfl
    · exact partsV_app wr t m n
theorem leftV_app (wr : Bool) : ∀ (l m : List Sg) (n : Int), leftV wr n (l ++ m) = leftV wr (leftV wr n l) m
  | [], m, n => rfl
  | s :: t, m, n => by
    simp only [List.cons_append, leftV]
    split
    · exact leftV_app wr t m _
    · exact leftV_app wr t m n
theorem partsV_ok (wr : Bool) : ∀ (l : List Sg) (n : Int), (∀ s ∈ l, s.Ok) → ∀ s ∈ partsV wr n l, s.Ok ∧ 0 ≤ s.n ∧ 0 < s.n ∧ s.wr = wr
  | [], _, _ => fun s h => by cases h
  | x :: t, n, h => by
    simp only [partsV]
    have ht := fun n => partsV_ok wr t n (fun s hs => h s (List.mem_cons_of_mem _ hs))
    split
    · rename_i hx
      intro s hs
      rcases List.mem_cons.1 hs with rfl | hs
      · have hk := h x (List.mem_cons_self ..)
        have h1 := hk.n0
        have h2 := hk.n1
        refine ⟨⟨hk.at', ?_, ?_⟩, ?_, ?_, hx.1⟩
        all_goals (show _ ; simp only; split <;> omega)
      · exact ht _ s hs
    · exact ht n
theorem partsV_len (wr : Bool) : ∀ (l : List Sg) (n : Int), (partsV wr n l).length ≤ l.length
  | [], _ => Nat.le_refl _
  | s :: t, n => by
    simp only [partsV]
    split
    · have := partsV_len wr t (n - if s.n ≤ n then s.n else n); simp; omega
    · have := partsV_len wr t n; simp; omega
theorem leftV_in (wr : Bool) : ∀ (l : List Sg) (n : Int), (∀ s ∈ l, s.Ok) → -9223372036854775808 ≤ n → n ≤ 9223372036854775807 → -9223372036854775808 ≤ leftV wr n l ∧ leftV wr n l ≤ 9223372036854775807
  | [], n, _, h1, h2 => ⟨h1, h2⟩
  | s :: t, n, h, h1, h2 => by
    simp only [leftV]
    have ht := fun n => leftV_in wr t n (fun s hs => h s (List.mem_cons_of_mem _ hs))
    split
    · apply ht
      · split <;> omega
      · split <;> omega
    · exact ht n h1 h2
set_option maxHeartbeats 4000000 in
theorem parts_any (l : List Sg) (hl : l.length ≤ 100000000) (hw : ∀ s ∈ l, s.Ok) (wb : Bool) (n0 : Int) (hn0 : -9223372036854775808 ≤ n0) (hn1 : n0 ≤ 9223372036854775807) {w : World} {B b p c Bl : Nat} {v : Value} {f : Nat → Nat} {O : Nat → Prop} (hM : RamB w B b p f c O) (hA : AreasAt w) (hL : w.ownsRow Bl 103 3 v l.length (segL l)) :
    Calls Tryz.prog 116 #[.pointer (some ⟨b, 0, none⟩), v, .bool wb, .int .i64 n0] w fun e w' => Below w.heap.size w w' ∧ (((partsV wb n0 l).all (inS p) = true ∧ ∃ v', e = .returned (.tuple #[v', .nilIface]) ∧ w'.ownsRow w.heap.size 103 3 v' (partsV wb n0 l).length (segL (partsV wb n0 l))) ∨ ((partsV wb n0 l).all (inS p) = false ∧ e = .returned (.tuple #[.slice none 0 0, .iface 129 (.int .i64 22)]))) := by
  have HM := hide hM
  have HA := hide hA
  have HL := hide hL
  obtain ⟨n, hn⟩ : ∃ n, l.length = n := ⟨_, rfl⟩
  have HN := hide hn
  rw [hn] at hl
  obtain ⟨av, cap, rfl, hc1, hc2⟩ := own_form hL
  rw [hn] at hc1 ⊢
  have hGw := hA.lt
  clear hM hA hL hn
  go_enter Tryz.func116, Tryz.ntmps116
  go_wp2_with (first | ((with_reducible refine op_box1 w.heap.size ?_ (.pointer (some ⟨b, 0, none⟩)) ?_ rfl ?_); exact rfl; exact rfl; intro W hP hb hz))
  go_loopw [3, 10, 15] (fun nv ov iv wr => ∃ (k : Nat), k ≤ n ∧ iv = .int .i64 (k : Nat) ∧ nv = .int .i64 (leftV wb n0 (l.take k)) ∧ wr.ownsRow (w.heap.size + 1) 103 3 ov (partsV wb n0 (l.take k)).length (segL (partsV wb n0 (l.take k))) ∧ RowAt wr w.heap.size #[.pointer (some ⟨b, 0, none⟩)] 36 ∧ Below w.heap.size w wr ∧ w.heap.size + 1 ≤ wr.heap.size) (fun nv ov iv _ => n - (intOf iv).toNat)
  case atStart => exact ⟨0, Nat.zero_le _, rfl, rfl, World.ownsRow_nil _ _ _ _, hP, hb, Nat.le_of_eq hz.out.symm⟩
  case round =>
    clear hP hb hz
    obtain ⟨k, hk, rfl, rfl, hO, hP, hb, hS⟩ := hrel
    have hle := leftV_in wb (l.take k) n0 (fun s hs => hw s (List.mem_of_mem_take hs)) hn0 hn1
    obtain ⟨pl, hpl⟩ : ∃ x, partsV wb n0 (l.take k) = x := ⟨_, rfl⟩
    obtain ⟨nl, hnl⟩ : ∃ x, leftV wb n0 (l.take k) = x := ⟨_, rfl⟩
    obtain ⟨pn, hpn⟩ : ∃ x, pl.length = x := ⟨_, rfl⟩
    have hpk : pn ≤ 100000000 := by
      have := partsV_len wb (l.take k) n0
      rw [hpl, hpn, List.length_take] at this
      omega
    rw [hpl, hpn] at hO
    rw [hnl] at hle ⊢
    have HPL := hide hpl
    have HNL := hide hnl
    have HPN := hide hpn
    obtain ⟨ov, oc, rfl, ho1, ho2⟩ := own_form hO
    clear hpl hnl hpn
    by_cases hlt : k < n
    · obtain ⟨gb, cap', cur, hve, _, _, _, hLr0, _, htk⟩ := own_row (own_bel HL.out hb) (show 0 < l.length by rw [HN.out]; omega)
      obtain ⟨rfl, rfl⟩ : av = some ⟨gb, 0, none⟩ ∧ cap = cap' := by injection hve with e1 e2 e3; exact ⟨e1, e3⟩
      have hgl : gb < w.heap.size := (HL.out.lt gb rfl).2
      have hLr := hLr0
      obtain ⟨s, hs⟩ : ∃ s, l[k]? = some s := ⟨_, List.getElem?_eq_getElem (by rw [HN.out]; exact hlt)⟩
      have hmid := mid_s htk hs
      have hok := hw s (List.mem_of_getElem? hs)
      have ok0 := hok.n0
      have ok1 := hok.n1
      have ht1 : l.take (k + 1) = l.take k ++ [s] := by rw [List.take_add_one, hs]; rfl
      have hpa : partsV wb n0 (l.take (k + 1)) = pl ++ partsV wb nl [s] := by rw [ht1, partsV_app, HPL.out, HNL.out]
      have hna : leftV wb n0 (l.take (k + 1)) = leftV wb nl [s] := by rw [ht1, leftV_app, HNL.out]
      have HPA := hide hpa
      have HNA := hide hna
      have hlt' : (k : Int) < (n : Int) := by omega
      obtain ⟨ND, hND0⟩ : ∃ x, wr.heap.size = x := ⟨_, rfl⟩
      have hND := hide hND0
      have hd1 : w.heap.size + 1 ≤ ND := hND0 ▸ hS
      have hdv : ∀ g, (Value.slice ov pn oc).ownBlock = some g → w.heap.size + 1 ≤ g ∧ g < ND := fun g hg => hND0 ▸ hO.lt g hg
      clear hs htk hve hpa hna ht1 hok hND0
      by_cases hcon : s.wr = wb ∧ 0 < s.n ∧ 0 < nl
      · obtain ⟨q1, q2, q3⟩ := hcon
        have hp1 : partsV wb nl [s] = [{ s with n := if s.n ≤ nl then s.n else nl }] := by simp only [partsV]; rw [if_pos ⟨q1, q2, q3⟩]
        have hn1' : leftV wb nl [s] = nl - if s.n ≤ nl then s.n else nl := by simp only [leftV]; rw [if_pos ⟨q1, q2, q3⟩]
        rw [hp1] at HPA
        rw [hn1'] at HNA
        have te : (s.wr == wb) = true := by simp [q1]
        clear hp1 hn1'
        obtain ⟨mn, hmn⟩ : ∃ x, (if s.n ≤ nl then s.n else nl) = x := ⟨_, rfl⟩
        rw [hmn] at HPA HNA
        have hmb : 0 < mn ∧ mn ≤ nl ∧ mn ≤ s.n := by rw [← hmn]; split <;> omega
        have emin : min s.n nl = mn := by rw [← hmn, Int.min_def]
        have emi2 : Hid ((if s.n ≤ nl then s.n else nl) = mn) := hide hmn
        obtain ⟨s2, hs2⟩ : ∃ x : Sg, { s with n := mn } = x := ⟨_, rfl⟩
        rw [hs2] at HPA
        have hs2n : s2.n = mn := by rw [← hs2]
        have HS2 := hide hs2
        clear hmn q1 hs2
        go_wp2_with (first | ((with_reducible refine ld_sm gb (k * 3) s cur _ hLr hmid ?_ ?_); exact rfl) | ((with_reducible refine al_sp ND ?_ ?_); exact hND.out; intro W hsr hb' hz; have hbc := hND.out ▸ hb'; replace hb := hb.trans (hb'.mono (by omega)); replace hP := hP.bl hbc; replace hLr := hLr.bl hbc; replace hO := own_bel hO hbc; replace hS := Nat.le_trans hS hbc.size; clear hb' hbc) | ((with_reducible refine st_sp ND _ s hsr ?_ ?_ ?_); exact rfl; exact rfl; intro W hnew ho; replace hz := hide (ho.size.trans hz.out); replace hP := hP.only ho (by omega); replace hLr := hLr.only ho (by omega); replace hO := own_only hO ho (fun e => absurd (hdv _ e).2 (by omega)); replace hb := ho.bel _ _ (by omega) hb; replace hS := (show w.heap.size + 1 ≤ W.heap.size by rw [ho.size]; exact hS); replace hsr := hnew; clear hnew ho) | ((with_reducible refine ld_swr ND _ _ hsr ?_ ?_ ?_); exact rfl; exact rfl) | ((with_reducible refine ld_sn ND _ _ hsr ?_ ?_ ?_); exact rfl; exact rfl) | ((with_reducible refine st_sn ND _ mn _ hsr ?_ ?_ ?_); exact rfl; (first | exact rfl | (exact congrArg _ emi2.out)); intro W hnew ho; rw [HS2.out] at hnew; replace hz := hide (ho.size.trans hz.out); replace hP := hP.only ho (by omega); replace hLr := hLr.only ho (by omega); replace hO := own_only hO ho (fun e => absurd (hdv _ e).2 (by omega)); replace hb := ho.bel _ _ (by omega) hb; replace hS := (show w.heap.size + 1 ≤ W.heap.size by rw [ho.size]; exact hS); replace hsr := hnew; clear hnew ho) | ((with_reducible refine ld_sp ND s2 hsr ?_ ?_ ?_); exact rfl; exact rfl) | ((with_reducible refine bs_s (ND + 1) ?_ s2 ?_ ?_); exact hz.out; exact rfl; intro W hbr hb' hz'; have hbc := hz.out ▸ hb'; replace hb := hb.trans (hb'.mono (by omega)); replace hP := hP.bl hbc; replace hO := own_bel hO hbc; replace hS := Nat.le_trans hS hbc.size; clear hb' hbc hz') | ((with_reducible refine app_s pl s2 pn HPN.out hO (ND + 1) hbr (by omega) hS ?_ ?_ ?_); exact rfl; exact rfl; intro W v' hL2 hg hbk; replace hP := grow_row hP hg (fun e => absurd (hdv _ e).1 (by omega)); have hwS := Nat.le_trans (Nat.le_succ _) hS; replace hb := grow_below hb hg hwS (fun g e => by have := (hdv g e).1; omega); replace hS := Nat.le_trans hS hg.size; replace hO := hL2; clear hL2 hg hbr))
        go_roundw
        case rel => exact ⟨k + 1, hlt, by go_num, by (rw [HNA.out]), by rw [HPA.out, List.length_append, HPN.out]; exact hO, hP, hb, hS⟩
        case measure => simp [intOf]; omega
      · have hp1 : partsV wb nl [s] = [] := by simp only [partsV]; rw [if_neg hcon]
        have hn1' : leftV wb nl [s] = nl := by simp only [leftV]; rw [if_neg hcon]
        rw [hp1, List.append_nil] at HPA
        rw [hn1'] at HNA
        clear hp1 hn1'
        by_cases q1 : s.wr = wb
        · have te : (s.wr == wb) = true := by simp [q1]
          by_cases q2 : 0 < s.n
          · have q3 : ¬ 0 < nl := fun e => hcon ⟨q1, q2, e⟩
            have t3 : decide (0 < nl) = false := by simpa using q3
            clear hcon q1
            go_wp2_with (first | ((with_reducible refine ld_sm gb (k * 3) s cur _ hLr hmid ?_ ?_); exact rfl) | ((with_reducible refine al_sp ND ?_ ?_); exact hND.out; intro W hsr hb' hz; have hbc := hND.out ▸ hb'; replace hb := hb.trans (hb'.mono (by omega)); replace hP := hP.bl hbc; replace hLr := hLr.bl hbc; replace hO := own_bel hO hbc; replace hS := Nat.le_trans hS hbc.size; clear hb' hbc) | ((with_reducible refine st_sp ND _ s hsr ?_ ?_ ?_); exact rfl; exact rfl; intro W hnew ho; replace hz := hide (ho.size.trans hz.out); replace hP := hP.only ho (by omega); replace hLr := hLr.only ho (by omega); replace hO := own_only hO ho (fun e => absurd (hdv _ e).2 (by omega)); replace hb := ho.bel _ _ (by omega) hb; replace hS := (show w.heap.size + 1 ≤ W.heap.size by rw [ho.size]; exact hS); replace hsr := hnew; clear hnew ho) | ((with_reducible refine ld_swr ND _ _ hsr ?_ ?_ ?_); exact rfl; exact rfl) | ((with_reducible refine ld_sn ND _ _ hsr ?_ ?_ ?_); exact rfl; exact rfl))
            go_roundw
            case rel => exact ⟨k + 1, hlt, by go_num, by rw [HNA.out], by rw [HPA.out, HPN.out]; exact hO, hP, hb, hS⟩
            case measure => simp [intOf]; omega
          · have t2 : decide (0 < s.n) = false := by simpa using q2
            clear hcon q1
            go_wp2_with (first | ((with_reducible refine ld_sm gb (k * 3) s cur _ hLr hmid ?_ ?_); exact rfl) | ((with_reducible refine al_sp ND ?_ ?_); exact hND.out; intro W hsr hb' hz; have hbc := hND.out ▸ hb'; replace hb := hb.trans (hb'.mono (by omega)); replace hP := hP.bl hbc; replace hLr := hLr.bl hbc; replace hO := own_bel hO hbc; replace hS := Nat.le_trans hS hbc.size; clear hb' hbc) | ((with_reducible refine st_sp ND _ s hsr ?_ ?_ ?_); exact rfl; exact rfl; intro W hnew ho; replace hz := hide (ho.size.trans hz.out); replace hP := hP.only ho (by omega); replace hLr := hLr.only ho (by omega); replace hO := own_only hO ho (fun e => absurd (hdv _ e).2 (by omega)); replace hb := ho.bel _ _ (by omega) hb; replace hS := (show w.heap.size + 1 ≤ W.heap.size by rw [ho.size]; exact hS); replace hsr := hnew; clear hnew ho) | ((with_reducible refine ld_swr ND _ _ hsr ?_ ?_ ?_); exact rfl; exact rfl) | ((with_reducible refine ld_sn ND _ _ hsr ?_ ?_ ?_); exact rfl; exact rfl))
            go_roundw
            case rel => exact ⟨k + 1, hlt, by go_num, by rw [HNA.out], by rw [HPA.out, HPN.out]; exact hO, hP, hb, hS⟩
            case measure => simp [intOf]; omega
        · have te : (s.wr == wb) = false := by simpa using q1
          clear hcon
          go_wp2_with (first | ((with_reducible refine ld_sm gb (k * 3) s cur _ hLr hmid ?_ ?_); exact rfl) | ((with_reducible refine al_sp ND ?_ ?_); exact hND.out; intro W hsr hb' hz; have hbc := hND.out ▸ hb'; replace hb := hb.trans (hb'.mono (by omega)); replace hP := hP.bl hbc; replace hLr := hLr.bl hbc; replace hO := own_bel hO hbc; replace hS := Nat.le_trans hS hbc.size; clear hb' hbc) | ((with_reducible refine st_sp ND _ s hsr ?_ ?_ ?_); exact rfl; exact rfl; intro W hnew ho; replace hz := hide (ho.size.trans hz.out); replace hP := hP.only ho (by omega); replace hLr := hLr.only ho (by omega); replace hO := own_only hO ho (fun e => absurd (hdv _ e).2 (by omega)); replace hb := ho.bel _ _ (by omega) hb; replace hS := (show w.heap.size + 1 ≤ W.heap.size by rw [ho.size]; exact hS); replace hsr := hnew; clear hnew ho) | ((with_reducible refine ld_swr ND _ _ hsr ?_ ?_ ?_); exact rfl; exact rfl) | ((with_reducible refine ld_sn ND _ _ hsr ?_ ?_ ?_); exact rfl; exact rfl))
          go_roundw
          case rel => exact ⟨k + 1, hlt, by go_num, by rw [HNA.out], by rw [HPA.out, HPN.out]; exact hO, hP, hb, hS⟩
          case measure => simp [intOf]; omega
    · obtain rfl : k = n := by omega
      have htl : l.take k = l := by rw [← HN.out, List.take_length]
      rw [htl] at HPL
      have hpok := partsV_ok wb l n0 hw
      rw [HPL.out] at hpok
      have HC : Hid (Calls Tryz.prog 105 #[.slice ov pn oc, .func (.func 140) #[] #[.pointer (some ⟨w.heap.size, 0, none⟩)]] wr fun e w' => e = .returned (.bool (!pl.all (inS p))) ∧ Below wr.heap.size wr w') := hide (con_seg pl (by rw [HPN.out]; omega) (fun s hs => ⟨(hpok s hs).1, (hpok s hs).2.1⟩) (HM.out.bl hb) (HA.out.bl hb) hP (by rw [HPN.out]; exact hO))
      obtain ⟨bo, hbo⟩ : ∃ x, pl.all (inS p) = x := ⟨_, rfl⟩
      rw [hbo] at HC
      have HBO := hide hbo
      have hnlt : ¬ (k : Int) < (k : Int) := by omega
      clear hbo hpok
      cases bo with
      | true =>
        go_wp2_with (first | (go_at_call 105; (with_reducible refine HC.out.mono ?_); rintro e W2 ⟨rfl, hb2⟩))
        go_ret2
        exact ⟨hb.trans (hb2.mono hb.size), .inl ⟨by rw [HPL.out]; exact HBO.out, _, rfl, by rw [HPL.out, HPN.out]; exact own_lower1 (own_bel hO hb2)⟩⟩
      | false =>
        go_wp2_with (first | (go_at_call 105; (with_reducible refine HC.out.mono ?_); rintro e W2 ⟨rfl, hb2⟩))
        go_ret2
        exact ⟨hb.trans (hb2.mono hb.size), .inr ⟨by rw [HPL.out]; exact HBO.out, rfl⟩⟩
end Go.Proofs.YtaaiockiojejeaaGreatDoor
namespace Go.Proofs.YtaaiockiojejeaaGreatDoor
open Go.RowKit
set_option linter.unusedVariables false
set_option linter.unusedSimpArgs false

theorem own_back {w V : World} {B e size n g cap : Nat} {xs : List Value} {cur : Array Value} (h : w.ownsRow B e size (.slice (some ⟨g, 0, none⟩) n cap) n xs) (hr : RowAt w g cur e) (hv : RowAt V g cur e) : V.ownsRow B e size (.slice (some ⟨g, 0, none⟩) n cap) n xs :=
  own_at h (fun g' e' => by cases e'; exact Eq.trans hv (Eq.symm hr))
/-- The bytes of a part. -/
def segF (f : Nat → Nat) (s : Sg) : List Nat := (List.range s.n.toNat).map fun j => f (plM s.at' + j)
/-- The bytes of parts, one behind the other. -/
def gathF (f : Nat → Nat) (l : List Sg) : List Nat := l.flatMap (segF f)
theorem segF_len (f : Nat → Nat) (s : Sg) : (segF f s).length = s.n.toNat := by simp [segF]
theorem segF_at {f : Nat → Nat} {s : Sg} {j : Nat} (h : j < s.n.toNat) : (segF f s)[j]? = some (f (plM s.at' + j)) := by simp [segF, h]
theorem gathF_app (f : Nat → Nat) (l m : List Sg) : gathF f (l ++ m) = gathF f l ++ gathF f m := by simp [gathF]
theorem gathF_one (f : Nat → Nat) (s : Sg) : gathF f [s] = segF f s := by simp [gathF]
theorem byteV_append (l m : List Nat) : byteV (l ++ m) = byteV l ++ byteV m := by simp [byteV]
theorem gathF_len {p : Nat} {f : Nat → Nat} (hp : p ≤ 16384) : ∀ (l : List Sg), (∀ s ∈ l, inS p s = true) → (gathF f l).length ≤ l.length * 67108864
  | [], _ => Nat.zero_le _
  | s :: t, h => by
    have ih := gathF_len (f := f) hp t (fun x hx => h x (List.mem_cons_of_mem _ hx))
    have hs := h s (List.mem_cons_self ..)
    have : gathF f (s :: t) = segF f s ++ gathF f t := rfl
    rw [this, List.length_append, segF_len, List.length_cons]
    have := of_decide_eq_true hs
    omega
theorem seg_src {W : World} {g : Nat} {f : Nat → Nat} {s : Sg} {N : Nat} (hN : s.n.toNat = N) (h : HoldsAt W g N 5 (fun j => .int .u8 (f (plM s.at' + j) : Nat))) (j : Nat) (u : Value) (hu : (byteV (segF f s))[j]? = some u) : W.cell? ⟨g, j, none⟩ = some u := by
  have hl : j < N := by
    have := (List.getElem?_eq_some_iff.1 hu).1
    rwa [byteV_len, segF_len, hN] at this
  rw [h.cell hl]
  rw [byteV, List.getElem?_map, segF_at (by rw [hN]; exact hl)] at hu
  exact hu
variable {ops : Array Oper} {rest : List Oper} {dst : Option Tmp} {ty : TypeId} {pos : String} {after : Array Edge} {a : Act} {w : World} {Q : Exit → Act → World → Prop} {x y : Operand} {B : Nat} {v : Value}
theorem info_b : ∃ i, Tryz.prog.info? 5 = some i ∧ i.zero = some (.int .u8 0) ∧ i.size = 1 ∧ i.bytes = 1 := info_parts (P := Tryz.prog) (e := 5) (z := .int .u8 0) (size := 1) (bytes := 1) (by kernel_rfl)
theorem app_b (l m : List Nat) (n N sc : Nat) (hn : l.length = n) (hm : m.length = N) (hown : w.ownsRow B 5 1 v n (byteV l)) (s : Nat) (hs : ∀ (j : Nat) (u : Value), (byteV m)[j]? = some u → w.cell? ⟨s, j, none⟩ = some u) (hl : n + N ≤ 140737488355328) (hB : B ≤ w.heap.size) (hx : a.eval x = v) (hy : a.eval y = .slice (some ⟨s, 0, none⟩) N sc)
    (k : ∀ W v', W.ownsRow B 5 1 v' (n + N) (byteV (l ++ m)) → w.grownBy W v.ownBlock → (v'.ownBlock = v.ownBlock ∨ v'.ownBlock = some w.heap.size) → wpList Tryz.prog ops Q rest (a.put dst v') W) :
    wpList Tryz.prog ops Q (⟨dst, .call { callee := .builtin .append, args := #[x, y], argTypes := #[37, 37] }, 37, pos, after, none⟩ :: rest) a w := by
  obtain ⟨i, h1, h2, h3, h4⟩ := info_b
  refine op_appl 37 5 i _ 1 1 Tryz.underlying37 h1 h2 h3 h4 rfl (by decide) hown ⟨s, 0, none⟩ N sc (byteV m) (by rw [byteV_len, hm]; omega) ?_ (byteV_one _) (by unfold maxLen; omega) (by omega) hB hx hy ?_
  · intro j u hu
    rw [Addr.add_lit, Nat.zero_add]
    exact hs j u hu
  · intro W v' q1 q2 q3
    rw [← byteV_append] at q1
    exact k W v' q1 q2 q3
set_option maxRecDepth 20000 in
set_option maxHeartbeats 4000000 in
theorem gath_ok (l : List Sg) (hl : l.length ≤ 1000000) (hw : ∀ s ∈ l, s.Ok) {w : World} {B b p c Bl : Nat} {v : Value} {f : Nat → Nat} {O : Nat → Prop} (h : RamB w B b p f c O) (hA : AreasAt w) (hG : 2 < B) (hL : w.ownsRow Bl 103 3 v l.length (segL l)) (hi : (partsV false 9223372036854775807 l).all (inS p) = true) : Calls Tryz.prog 70 #[.pointer (some ⟨b, 0, none⟩), v] w fun e w' => ∃ O' v', e = .returned (.tuple #[v', .nilIface]) ∧ RamB w' B b p f c O' ∧ Went B O O' w w' ∧ w'.ownsRow w.heap.size 5 1 v' (gathF f (partsV false 9223372036854775807 l)).length (byteV (gathF f (partsV false 9223372036854775807 l))) ∧ ∀ g, v'.ownBlock = some g → ¬ O' g := by
  have HP : Hid (Calls Tryz.prog 116 #[.pointer (some ⟨b, 0, none⟩), v, .bool false, .int .i64 9223372036854775807] w fun e w' => Below w.heap.size w w' ∧ ∃ v', e = .returned (.tuple #[v', .nilIface]) ∧ w'.ownsRow w.heap.size 103 3 v' (partsV false 9223372036854775807 l).length (segL (partsV false 9223372036854775807 l))) := hide ((parts_any l (by omega) hw false 9223372036854775807 (by decide) (by decide) h hA hL).mono (by
    rintro e w' ⟨hb, ⟨_, a1⟩ | ⟨a2, _⟩⟩
    · exact ⟨hb, a1⟩
    · rw [hi] at a2; cases a2))
  have hok := partsV_ok false l 9223372036854775807 hw
  have hpn := partsV_len false l 9223372036854775807
  generalize partsV false 9223372036854775807 l = q at *
  obtain ⟨av, cap, rfl, _, _⟩ := own_form hL
  obtain ⟨n, hn⟩ : ∃ n, q.length = n := ⟨_, rfl⟩
  have HN := hide hn
  rw [hn] at HP hpn
  have hall : ∀ s ∈ q, inS p s = true := List.all_eq_true.1 hi
  have HQ := hide (fun s hs => And.intro (hok s hs) (hall s hs))
  have hfew := h.few
  have HGL := hide (fun k => gathF_len (f := f) hfew (q.take k) (fun s hs => hall s (List.mem_of_mem_take hs)))
  have hB0 := h.base
  have hGw : 2 < w.heap.size := Nat.lt_of_lt_of_le hG hB0
  have HH := hide h
  have HA0 := hide hA
  clear hL hi hok hall hn h hA
  go_enter Tryz.func70, Tryz.ntmps70
  go_wp2_with (first | (go_at_call 116; (with_reducible refine HP.out.mono ?_); rintro e W ⟨hb, vq, rfl, hq⟩; obtain ⟨qa, qc, rfl, hqc1, hqc2⟩ := own_form hq))
  go_loopw [8, 27] (fun ov iv wr => ∃ (k : Nat) (O1 : Nat → Prop), k ≤ n ∧ iv = .int .i64 (k : Nat) ∧ RamB wr B b p f c O1 ∧ Went B O O1 w wr ∧ AreasAt wr ∧ wr.ownsRow w.heap.size 103 3 (.slice qa n qc) n (segL q) ∧ (∀ g, (Value.slice qa n qc).ownBlock = some g → ¬ O1 g) ∧ wr.ownsRow w.heap.size 5 1 ov (gathF f (q.take k)).length (byteV (gathF f (q.take k))) ∧ (∀ g, ov.ownBlock = some g → ¬ O1 g) ∧ (∀ g, ov.ownBlock = some g → (Value.slice qa n qc).ownBlock ≠ some g)) (fun ov iv _ => n - (intOf iv).toNat)
  case atStart => exact ⟨0, O, Nat.zero_le _, rfl, HH.out.bl hb, Went.of hb hB0, HA0.out.bl hb, hq, (fun g e k => absurd (HH.out.lt g k) (by have := (hq.lt g e).1; omega)), World.ownsRow_nil _ _ _ _, (fun g hg => by cases hg), (fun g hg => by cases hg)⟩
  case round =>
    clear hb hq
    obtain ⟨k, O1, hk, rfl, hM, hW, hA, hq, hqn, hO, hOn, hOq⟩ := hrel
    have hS := hW.size
    have hB : B ≤ wr.heap.size := Nat.le_trans hB0 hS
    obtain ⟨gl, hgl⟩ : ∃ x, (gathF f (q.take k)).length = x := ⟨_, rfl⟩
    have hgb : gl ≤ 1000000 * 67108864 := by
      have := HGL.out k
      rw [hgl, List.length_take] at this
      have h2 : min k q.length ≤ 1000000 := by rw [HN.out]; omega
      exact Nat.le_trans this (Nat.mul_le_mul_right _ h2)
    rw [hgl] at hO
    have HGLn := hide hgl
    obtain ⟨ov, oc, rfl, ho1, ho2⟩ := own_form hO
    clear hgl
    by_cases hlt : k < n
    · obtain ⟨gb, cap', cur, hve, _, _, hgB, hLr, _, htk⟩ := own_row hq (show 0 < n by omega)
      obtain ⟨rfl, rfl⟩ : qa = some ⟨gb, 0, none⟩ ∧ qc = cap' := by injection hve with e1 e2 e3; exact ⟨e1, e3⟩
      have hgl : gb < wr.heap.size := hLr.lt
      obtain ⟨s, hs⟩ : ∃ s, q[k]? = some s := ⟨_, List.getElem?_eq_getElem (by rw [HN.out]; exact hlt)⟩
      have hmid := mid_s htk hs
      obtain ⟨⟨hok, _, hps, _⟩, hin⟩ := HQ.out s (List.mem_of_getElem? hs)
      obtain ⟨N, hN⟩ := Int.eq_ofNat_of_zero_le (show 0 ≤ s.n by omega)
      have hNt : s.n.toNat = N := by omega
      have hN0 : 0 < N := by omega
      have hin2 : plM s.at' + N ≤ 4096 * p := plB_in (by unfold inS at hin; rwa [hNt] at hin) hN0
      have hsl := segF_len f s
      rw [hNt] at hsl
      have htk1 : gathF f (q.take (k + 1)) = gathF f (q.take k) ++ segF f s := by rw [List.take_add_one, hs, gathF_app]; simp [gathF_one]
      have HT1 := hide htk1
      have hN9 : N ≤ 67108864 := by omega
      have HIM : Hid (∀ W, AreasAt W → Calls Tryz.prog 111 #[.int .u32 (s.at' : Nat)] W fun e w' => e = .returned (.int .u32 (plM s.at' : Nat)) ∧ Below W.heap.size W w') := hide (fun W hA => rinmem_any s.at' hok.at' W hA)
      have HRD : Hid (∀ W O1 NX, W.heap.size = NX → RamB W B b p f c O1 → Calls Tryz.prog 14 #[.pointer (some ⟨b, 0, none⟩), .int .u32 (plM s.at' : Nat), .int .i64 (N : Nat)] W fun e w' => e = .returned (.tuple #[.slice (some ⟨NX, 0, none⟩) N N, .nilIface]) ∧ HoldsAt w' NX N 5 (fun j => .int .u8 (f (plM s.at' + j) : Nat)) ∧ ∃ O', RamB w' B b p f c O' ∧ Went B O1 O' W w' ∧ ¬ O' NX) := hide (fun W O1 NX e hM => by subst e; exact read_b hM (plM s.at') (plM_lt hok.at') N hN0 hin2)
      have hlt' : (k : Int) < (n : Int) := by omega
      obtain ⟨ND, hND0⟩ : ∃ x, wr.heap.size = x := ⟨_, rfl⟩
      have hND := hide hND0
      have hd1 : w.heap.size ≤ ND := hND0 ▸ hS
      have hd2 : B ≤ ND := hND0 ▸ hB
      have hd3 : gb < ND := hND0 ▸ hgl
      have hdv : ∀ g, (Value.slice ov gl oc).ownBlock = some g → w.heap.size ≤ g ∧ g < ND := fun g hg => hND0 ▸ hO.lt g hg
      have hdO : ¬ O1 ND := fun e => absurd (hM.lt _ e) (by omega)
      have HSR := hide (fun (W : World) g (h : HoldsAt W g N 5 (fun j => .int .u8 (f (plM s.at' + j) : Nat))) => seg_src hNt h)
      have hqg := hqn gb rfl
      have hOg : ∀ g, (Value.slice ov gl oc).ownBlock = some g → gb ≠ g := fun g e k => hOq g e (by rw [k]; rfl)
      have HQO := hide (fun (V : World) (hr : RowAt V gb cur 103) => own_back hq hLr hr)
      generalize plM s.at' = pa at *
      clear hs htk hve htk1 hok hin hin2 hND0 hps hNt hq hqn hOq
      go_wp2_with (first | ((with_reducible refine ld_sm gb (k * 3) s cur _ hLr hmid ?_ ?_); exact rfl) | ((with_reducible refine al_sp ND ?_ ?_); exact hND.out; intro W hsr hb' hz; have hbc := hND.out ▸ hb'; replace hM := hM.bl hbc; replace hW := hW.bl hbc hB; replace hA := hA.bl hbc; replace hB := Nat.le_trans hB hbc.size; replace hS := Nat.le_trans hS hbc.size; replace hLr := hLr.bl hbc; replace hO := own_bel hO hbc; clear hb' hbc) | ((with_reducible refine st_sp ND _ s hsr ?_ ?_ ?_); exact rfl; exact rfl; intro W hnew ho; replace hz := hide (ho.size.trans hz.out); replace hM := hM.only ho hdO; replace hW := hW.only ho (by omega) (by omega); replace hA := hA.onlyR ho (by omega); replace hLr := hLr.only ho (by omega); replace hO := own_only hO ho (fun e => absurd (hdv _ e).2 (by omega)); replace hS := (show w.heap.size ≤ W.heap.size by rw [ho.size]; exact hS); replace hB := (show B ≤ W.heap.size by rw [ho.size]; exact hB); replace hsr := hnew; clear hnew ho))
      refine wp_region_held_drew (S := (fun V => RowAt V ND s.cells 103)) (by kernel_rfl) ?_ (fun hHeld => ?_)
      · exact hsr.dr
      replace hM := hM.dr
      replace hW := hW.dr
      replace hA := hA.drR
      replace hLr := hLr.dr
      replace hO := own_dr hO
      replace hS : w.heap.size ≤ (World.drew _).heap.size := hS
      replace hB : B ≤ (World.drew _).heap.size := hB
      generalize World.drew _ = V at hHeld hM hW hA hLr hO hS hB ⊢
      clear hsr hz
      refine tkO 0 (.pointer (some ⟨b, 0, none⟩)) (by simp only [gT, gZ]; rfl) (puO (by (intro w hSw; (try dsimp only at hSw); go_simp))) ?_
      simp only [Act.put, pA, pZ, pS]
      refine tkO 1 (.pointer (some ⟨ND, 0, none⟩)) (by simp only [gT, gZ, gS]; rfl) (puO (by (intro w hSw; (try dsimp only at hSw); go_simp))) ?_
      simp only [Act.put, pA, pZ, pS]
      refine tkO 2 (.int .u32 (s.at' : Nat)) (by simp only [gT, gZ, gS]; rfl) (y_sat ND s _ (fun V hV => hV) rfl) ?_
      simp only [Act.put, pA, pZ, pS]
      refine tkO 4 (.pointer (some ⟨ND, 1, none⟩)) (by simp only [gT, gZ, gS]; rfl) (puO (by (intro w hSw; (try dsimp only at hSw); go_simp))) ?_
      simp only [Act.put, pA, pZ, pS]
      refine tkO 5 (.int .i64 s.n) (by simp only [gT, gZ, gS]; rfl) (y_sn ND s _ (fun V hV => hV) rfl) ?_
      simp only [Act.put, pA, pZ, pS]
      rw [hN]
      refine skO 3 (by simp only [gT, gZ, gS]; rfl) (fun K hK => ?_)
      rw [if_pos (by rfl)]
      go_simp
      (with_reducible refine (HIM.out _ hA).mono ?_)
      rintro e V2 ⟨rfl, hbc⟩
      have hH2 := hide (hHeld.bl hbc)
      replace hM := hM.bl hbc
      replace hW := hW.bl hbc hB
      replace hA := hA.bl hbc
      replace hLr := hLr.bl hbc
      replace hO := own_bel hO hbc
      replace hB := Nat.le_trans hB hbc.size
      replace hS := Nat.le_trans hS hbc.size
      clear hHeld hbc
      go_simp
      refine hK.out _ _ ?_ (fun hHeld => ?_)
      · exact hH2.out
      clear hK K
      clear hH2
      refine skO 6 (by simp only [gT, gZ, gS]; rfl) (fun K hK => ?_)
      obtain ⟨NX, hNX⟩ : ∃ x, V2.heap.size = x := ⟨_, rfl⟩
      rw [if_pos (by rfl)]
      go_simp
      (with_reducible refine (HRD.out _ _ NX hNX hM).mono ?_)
      rintro e V3 ⟨rfl, hHo, O3, hM3, hW3, hn3⟩
      have hH2 := hide (hW3.row hHeld hdO)
      have hqg3 := hW3.no hLr.lt hqg
      replace hLr := hW3.row hLr hqg
      have hx3 : NX < V3.heap.size := hHo.lt
      have hxv : ∀ g, (Value.slice ov gl oc).ownBlock = some g → g < NX := fun g hg => hNX ▸ (hO.lt g hg).2
      have hOn3 := fun g hg => hW3.no (hO.lt g hg).2 (hOn g hg)
      replace hO := own_went hO hW3 hOn
      replace hA := hA.wentR hG hW3
      replace hS := Nat.le_trans hS hW3.size
      replace hW := hW.trans hW3
      replace hB := Nat.le_trans hB hW3.size
      clear hM hOn hqg hW3 hHeld hNX
      go_simp
      refine hK.out _ _ ?_ (fun hHeld => ?_)
      · exact hH2.out
      clear hK K
      clear hH2
      refine tkO 7 (.tuple #[.slice (some ⟨NX, 0, none⟩) N N, .nilIface]) (by simp only [gT, gZ, gS]; rfl) (puO (by (intro w hSw; (try dsimp only at hSw); go_simp))) ?_
      simp only [Act.put, pA, pZ, pS]
      refine tkO 8 (.slice (some ⟨NX, 0, none⟩) N N) (by simp only [gT, gZ, gS]; rfl) (puO (by (intro w hSw; (try dsimp only at hSw); go_simp))) ?_
      simp only [Act.put, pA, pZ, pS]
      refine tkO 9 (.nilIface) (by simp only [gT, gZ, gS]; rfl) (puO (by (intro w hSw; (try dsimp only at hSw); go_simp))) ?_
      simp only [Act.put, pA, pZ, pS]
      refine tkO 10 (.slice (some ⟨NX, 0, none⟩) N N) (by simp only [gT, gZ, gS]; rfl) (puO (by (intro w hSw; (try dsimp only at hSw); go_simp))) ?_
      simp only [Act.put, pA, pZ, pS]
      refine tkO 11 (.nilIface) (by simp only [gT, gZ, gS]; rfl) (puO (by (intro w hSw; (try dsimp only at hSw); go_simp))) ?_
      simp only [Act.put, pA, pZ, pS]
      refine wpAnyH_done (by kernel_rfl) ?_ _
      clear hHeld
      go_wp2_with (first | ((with_reducible refine app_b (gathF f (q.take k)) (segF f s) gl N N HGLn.out hsl hO NX (HSR.out _ _ hHo) (by omega) hS ?_ ?_ ?_); exact rfl; exact rfl; intro W v' hL2 hg hbk; have hOn4 := grow_no hM3 hOn3 hbk; have hbk2 : ∀ g, v'.ownBlock = some g → gb ≠ g := (fun g e => by rcases hbk with q1 | q1; exact hOg g (q1 ▸ e); rw [q1] at e; cases e; have := hLr.lt; omega); replace hLr := grow_row hLr hg (fun e => hOg _ e rfl); replace hA := AreasAt.growR hA hg (fun g e => by have := (hdv g e).1; omega); replace hW := grow_went hW hg (fun g e => (hdv g e).1) hB0; have hM4 := grow_ram hM3 hg hOn3; replace hS := Nat.le_trans hS hg.size; clear hM3 hOn3 hHo hg hbk))
      go_roundw
      case rel =>
        refine ⟨k + 1, _, hlt, by go_num, hM4, hW, hA, HQO.out _ hLr, (fun g e => by cases e; exact hqg3), by rw [HT1.out, List.length_append, HGLn.out, hsl]; exact hL2, hOn4, (fun g e k => by cases k; exact hbk2 _ e rfl)⟩
      case measure => simp [intOf]; omega
    · obtain rfl : k = n := by omega
      go_wp2
      go_ret2
      have ht : q.take k = q := by rw [← HN.out, List.take_length]
      rw [ht] at HGLn
      refine ⟨O1, _, rfl, hM, hW, ?_, hOn⟩
      rw [HGLn.out]
      rw [ht] at hO
      exact hO
end Go.Proofs.YtaaiockiojejeaaGreatDoor
namespace Go.Proofs.YtaaiockiojejeaaGreatDoor
open Go.RowKit
set_option linter.unusedVariables false

def txtR (l : List Nat) : ByteArray := ⟨(l.map fun n => UInt8.ofNat n).toArray⟩
end Go.Proofs.YtaaiockiojejeaaGreatDoor
namespace Go.Proofs.YtaaiockiojejeaaGreatDoor
open Go.RowKit
set_option linter.unusedVariables false
set_option linter.unusedSimpArgs false

/-- A sum of bytes, which stays at the greatest number. -/
def moreN (s n : Int) : Int := if 0 ≤ n then (if n ≤ 9223372036854775807 - s then s + n else 9223372036854775807) else s
theorem moreN_in {s n : Int} (h0 : 0 ≤ s) (h1 : s ≤ 9223372036854775807) : 0 ≤ moreN s n ∧ moreN s n ≤ 9223372036854775807 := by unfold moreN; split <;> (try split) <;> omega
def roomV (wr : Bool) : Int → List Sg → Int
  | a, [] => a
  | a, s :: t => roomV wr (if s.wr = wr then moreN a s.n else a) t
theorem roomV_app (wr : Bool) : ∀ (l m : List Sg) (a : Int), roomV wr a (l ++ m) = roomV wr (roomV wr a l) m
  | [], m, a => rfl
  | s :: t, m, a => roomV_app wr t m _
theorem roomV_in (wr : Bool) : ∀ (l : List Sg) (a : Int), 0 ≤ a → a ≤ 9223372036854775807 → 0 ≤ roomV wr a l ∧ roomV wr a l ≤ 9223372036854775807
  | [], a, h0, h1 => ⟨h0, h1⟩
  | s :: t, a, h0, h1 => by
    have := moreN_in (n := s.n) h0 h1
    exact roomV_in wr t _ (by split <;> omega) (by split <;> omega)
set_option maxHeartbeats 1000000 in
theorem more_any (s n : Int) (h0 : 0 ≤ s) (h1 : s ≤ 9223372036854775807) (n0 : -9223372036854775808 ≤ n) (n1 : n ≤ 9223372036854775807) (w : World) : Calls Tryz.prog 117 #[.int .i64 s, .int .i64 n] w fun e w' => e = .returned (.int .i64 (moreN s n)) ∧ w' = w := by
  unfold moreN
  by_cases c0 : 0 ≤ n
  · by_cases c1 : n ≤ 9223372036854775807 - s
    · rw [if_pos c0, if_pos c1]
      have e1 : max n 0 = n := by omega
      have e2 : min n (9223372036854775807 - s) = n := by omega
      go_enter Tryz.func117, Tryz.ntmps117
      go_wp2
      go_ret
      refine ⟨?_, rfl⟩
      show Ending.returned (.int .i64 _) = _
      congr 2
    · rw [if_pos c0, if_neg c1]
      have e1 : max n 0 = n := by omega
      have e2 : min n (9223372036854775807 - s) = 9223372036854775807 - s := by omega
      go_enter Tryz.func117, Tryz.ntmps117
      go_wp2
      go_ret
      refine ⟨?_, rfl⟩
      show Ending.returned (.int .i64 _) = _
      congr 2
      omega
  · rw [if_neg c0]
    have e1 : max n 0 = 0 := by omega
    have e2 : min (0 : Int) (9223372036854775807 - s) = 0 := by omega
    go_enter Tryz.func117, Tryz.ntmps117
    go_wp2
    go_ret
    refine ⟨?_, rfl⟩
    show Ending.returned (.int .i64 _) = _
    congr 2
set_option maxHeartbeats 2000000 in
theorem room_any (l : List Sg) (hl : l.length ≤ 1000000) (hw : ∀ s ∈ l, s.Ok) {w : World} {Bl : Nat} {v : Value} (hL : w.ownsRow Bl 103 3 v l.length (segL l)) :
    Calls Tryz.prog 72 #[v] w fun e w' => e = .returned (.tuple #[.int .i64 (roomV false 0 l), .int .i64 (roomV true 0 l)]) ∧ Below w.heap.size w w' := by
  have HL := hide hL
  obtain ⟨n, hn⟩ : ∃ n, l.length = n := ⟨_, rfl⟩
  have HN := hide hn
  rw [hn] at hl
  obtain ⟨av, cap, rfl, hc1, hc2⟩ := own_form hL
  rw [hn] at hc1 ⊢
  clear hL hn
  go_enter Tryz.func72, Tryz.ntmps72
  go_wp2
  go_loopw [4, 5, 10] (fun rv wv iv wr => ∃ (k : Nat), k ≤ n ∧ iv = .int .i64 (k : Nat) ∧ rv = .int .i64 (roomV false 0 (l.take k)) ∧ wv = .int .i64 (roomV true 0 (l.take k)) ∧ Below w.heap.size w wr) (fun rv wv iv _ => n - (intOf iv).toNat)
  case atStart => exact ⟨0, Nat.zero_le _, rfl, rfl, rfl, Below.refl _ _⟩
  case round =>
    obtain ⟨k, hk, rfl, rfl, rfl, hb⟩ := hrel
    have hb1 := roomV_in false (l.take k) 0 (by decide) (by decide)
    have hb2 := roomV_in true (l.take k) 0 (by decide) (by decide)
    obtain ⟨ra, hra⟩ : ∃ x, roomV false 0 (l.take k) = x := ⟨_, rfl⟩
    obtain ⟨wa, hwa⟩ : ∃ x, roomV true 0 (l.take k) = x := ⟨_, rfl⟩
    rw [hra] at hb1 ⊢
    rw [hwa] at hb2 ⊢
    have HRA := hide hra
    have HWA := hide hwa
    clear hra hwa
    by_cases hlt : k < n
    · obtain ⟨gb, cap', cur, hve, _, _, _, hLr0, _, htk⟩ := own_row (own_bel HL.out hb) (show 0 < l.length by rw [HN.out]; omega)
      obtain ⟨rfl, rfl⟩ : av = some ⟨gb, 0, none⟩ ∧ cap = cap' := by injection hve with e1 e2 e3; exact ⟨e1, e3⟩
      have hgl : gb < w.heap.size := (HL.out.lt gb rfl).2
      have hLr := hLr0
      obtain ⟨s, hs⟩ : ∃ s, l[k]? = some s := ⟨_, List.getElem?_eq_getElem (by rw [HN.out]; exact hlt)⟩
      have hmid := mid_s htk hs
      have hok := hw s (List.mem_of_getElem? hs)
      have ht1 : l.take (k + 1) = l.take k ++ [s] := by rw [List.take_add_one, hs]; rfl
      have hr1 : roomV false 0 (l.take (k + 1)) = if s.wr = false then moreN ra s.n else ra := by rw [ht1, roomV_app, HRA.out]; rfl
      have hw1 : roomV true 0 (l.take (k + 1)) = if s.wr = true then moreN wa s.n else wa := by rw [ht1, roomV_app, HWA.out]; rfl
      have HR1 := hide hr1
      have HW1 := hide hw1
      have HM1 : Hid (∀ W, Calls Tryz.prog 117 #[.int .i64 ra, .int .i64 s.n] W fun e w' => e = .returned (.int .i64 (moreN ra s.n)) ∧ w' = W) := hide (fun W => more_any ra s.n hb1.1 hb1.2 hok.n0 hok.n1 W)
      have HM2 : Hid (∀ W, Calls Tryz.prog 117 #[.int .i64 wa, .int .i64 s.n] W fun e w' => e = .returned (.int .i64 (moreN wa s.n)) ∧ w' = W) := hide (fun W => more_any wa s.n hb2.1 hb2.2 hok.n0 hok.n1 W)
      have hlt' : (k : Int) < (n : Int) := by omega
      obtain ⟨ND, hND0⟩ : ∃ x, wr.heap.size = x := ⟨_, rfl⟩
      have hND := hide hND0
      have hd1 : w.heap.size ≤ ND := hND0 ▸ hb.size
      clear hs htk hve ht1 hr1 hw1 hok hND0
      obtain ⟨sw, hsw⟩ : ∃ x, s.wr = x := ⟨_, rfl⟩
      rw [hsw] at HR1 HW1
      cases sw with
      | true =>
        rw [if_neg (by decide)] at HR1
        rw [if_pos rfl] at HW1
        go_wp2_with (first | ((with_reducible refine ld_sm gb (k * 3) s cur _ hLr hmid ?_ ?_); exact rfl) | ((with_reducible refine al_sp ND ?_ ?_); exact hND.out; intro W hsr hb' hz; have hbc := hND.out ▸ hb'; replace hb := hb.trans (hb'.mono (by omega)); replace hLr := hLr.bl hbc; clear hb' hbc) | ((with_reducible refine st_sp ND _ s hsr ?_ ?_ ?_); exact rfl; exact rfl; intro W hnew ho; replace hLr := hLr.only ho (by omega); replace hb := ho.bel _ _ (by omega) hb; replace hsr := hnew; clear hnew ho) | ((with_reducible refine ld_swr ND _ _ hsr ?_ ?_ ?_); exact rfl; exact rfl; rw [hsw]) | ((with_reducible refine ld_sn ND _ _ hsr ?_ ?_ ?_); exact rfl; exact rfl) | (go_at_call 117; (with_reducible refine (HM2.out _).mono ?_); rintro e W2 ⟨rfl, rfl⟩))
        go_roundw
        case rel => exact ⟨k + 1, hlt, by go_num, by rw [HR1.out], by rw [HW1.out], hb⟩
        case measure => simp [intOf]; omega
      | false =>
        rw [if_pos rfl] at HR1
        rw [if_neg (by decide)] at HW1
        go_wp2_with (first | ((with_reducible refine ld_sm gb (k * 3) s cur _ hLr hmid ?_ ?_); exact rfl) | ((with_reducible refine al_sp ND ?_ ?_); exact hND.out; intro W hsr hb' hz; have hbc := hND.out ▸ hb'; replace hb := hb.trans (hb'.mono (by omega)); replace hLr := hLr.bl hbc; clear hb' hbc) | ((with_reducible refine st_sp ND _ s hsr ?_ ?_ ?_); exact rfl; exact rfl; intro W hnew ho; replace hLr := hLr.only ho (by omega); replace hb := ho.bel _ _ (by omega) hb; replace hsr := hnew; clear hnew ho) | ((with_reducible refine ld_swr ND _ _ hsr ?_ ?_ ?_); exact rfl; exact rfl; rw [hsw]) | ((with_reducible refine ld_sn ND _ _ hsr ?_ ?_ ?_); exact rfl; exact rfl) | (go_at_call 117; (with_reducible refine (HM1.out _).mono ?_); rintro e W2 ⟨rfl, rfl⟩))
        go_roundw
        case rel => exact ⟨k + 1, hlt, by go_num, by rw [HR1.out], by rw [HW1.out], hb⟩
        case measure => simp [intOf]; omega
    · obtain rfl : k = n := by omega
      have ht : l.take k = l := by rw [← HN.out, List.take_length]
      rw [ht] at HRA HWA
      go_wp2
      go_ret2
      exact ⟨by rw [HRA.out, HWA.out]; rfl, hb⟩
end Go.Proofs.YtaaiockiojejeaaGreatDoor
