/-
  What ring's partsOf answers.
-/
import Derived.Test.YtghpjibjhaomoaaGreatDoorJRiWalk
namespace Go.Proofs.YtghpjibjhaomoaaGreatDoor
open Go.RowKit
set_option linter.unusedVariables false
set_option linter.unusedSimpArgs false

/-- Has a memory of p pages all bytes of a part? -/
def inS (p : Nat) (s : Sg) : Bool := plB p s.at' s.n.toNat
set_option maxHeartbeats 1000000 in
theorem pout_any (s : Sg) (hs : s.Ok) (h0 : 0 ≤ s.n) {w : World} {B b p c Mb : Nat} {tM : TypeId} {f : Nat → Nat} {O : Nat → Prop} (hM : RamB w B b p f c O) (hA : AreasAt w) (hP : RowAt w Mb #[.pointer (some ⟨b, 0, none⟩)] tM) :
    Calls Tryz.prog 67 #[.agg s.cells, .pointer (some ⟨Mb, 0, none⟩)] w fun e w' => e = .returned (.bool (!inS p s)) ∧ Below w.heap.size w w' := by
  obtain ⟨n, hn⟩ := Int.eq_ofNat_of_zero_le h0
  have hnl := hs.n1
  have HIN : Hid (∀ W, RamB W B b p f c O → AreasAt W → Calls Tryz.prog 45 #[.pointer (some ⟨b, 0, none⟩), .int .u32 (s.at' : Nat), .int .u64 (n : Nat)] W fun e w' => e = .returned (.bool (inS p s)) ∧ Below W.heap.size W w') := hide (fun W hM hA => by have := isin_b hM hA s.at' n hs.at' (by omega); unfold inS; rw [hn, Int.toNat_natCast]; exact this)
  have ecv : Hid (IntKind.u64.wrap s.n = (n : Int)) := hide (by rw [hn, IntKind.wrap_u64]; omega)
  have ecv2 : IntKind.u64.wrap s.n = (n : Int) := ecv.out
  generalize inS p s = bo at HIN ⊢
  clear hs h0 hn
  go_enter Tryz.func67, Tryz.ntmps67
  go_wp2_with (first | ((with_reducible refine bx_sp w.heap.size s ?_ ?_ ?_); exact rfl; exact rfl; intro W hr hb hz; replace hP := hP.bl hb; replace hM := hM.bl hb; replace hA := hA.bl hb) | ((with_reducible refine ld_pm1 Mb _ _ hP ?_ ?_ ?_); exact rfl; exact rfl) | ((with_reducible refine ld_sat w.heap.size _ _ hr ?_ ?_ ?_); exact rfl; exact rfl) | ((with_reducible refine ld_sn w.heap.size _ _ hr ?_ ?_ ?_); exact rfl; exact rfl) | (go_at_call 45; (with_reducible refine (HIN.out _ hM hA).mono ?_); rintro e W ⟨rfl, hbc⟩; replace hb := below_bl rfl hb hbc))
  go_ret
  exact ⟨rfl, hb⟩
set_option maxHeartbeats 2000000 in
theorem idx_seg (l : List Sg) (hl : l.length ≤ 1000000000) (hw : ∀ s ∈ l, s.Ok ∧ 0 ≤ s.n) {w : World} {B b p c Mb Bl : Nat} {v : Value} {tM : TypeId} {f : Nat → Nat} {O : Nat → Prop} (hM : RamB w B b p f c O) (hA : AreasAt w) (hP : RowAt w Mb #[.pointer (some ⟨b, 0, none⟩)] tM) (hL : w.ownsRow Bl 70 3 v l.length (segL l)) :
    Calls Tryz.prog 80 #[v, .func (.func 67) #[] #[.pointer (some ⟨Mb, 0, none⟩)]] w fun e w' => ∃ z : Int, e = .returned (.int .i64 z) ∧ (0 ≤ z ↔ l.all (inS p) = false) ∧ Below w.heap.size w w' := by
  have HM := hide hM
  have HA := hide hA
  have HP := hide hP
  have HL := hide hL
  obtain ⟨n, hn⟩ : ∃ n, l.length = n := ⟨_, rfl⟩
  have HN := hide hn
  rw [hn] at hl
  obtain ⟨av, cap, rfl, hc1, hc2⟩ := own_form hL
  rw [hn] at hc1 ⊢
  clear hM hA hP hL hn
  go_enter Tryz.func80, Tryz.ntmps80
  go_wp2
  go_loopw [8] (fun iv wr => ∃ (k : Nat), k ≤ n ∧ iv = .int .i64 (k : Nat) ∧ (l.take k).all (inS p) = true ∧ Below w.heap.size w wr) (fun iv _ => n - (intOf iv).toNat)
  case atStart => exact ⟨0, Nat.zero_le _, rfl, rfl, Below.refl _ _⟩
  case round =>
    obtain ⟨k, hk, rfl, hod, hb⟩ := hrel
    have HOD := hide hod
    clear hod
    by_cases hlt : k < n
    · obtain ⟨gb, cap', cur, hve, _, _, _, hLr0, _, htk⟩ := own_row (own_bel HL.out hb) (show 0 < l.length by rw [HN.out]; omega)
      obtain ⟨rfl, rfl⟩ : av = some ⟨gb, 0, none⟩ ∧ cap = cap' := by injection hve with e1 e2 e3; exact ⟨e1, e3⟩
      have hLr := hLr0
      obtain ⟨s, hs⟩ : ∃ s, l[k]? = some s := ⟨_, List.getElem?_eq_getElem (by rw [HN.out]; exact hlt)⟩
      have hmid := mid_s htk hs
      obtain ⟨hok, hsn⟩ := hw s (List.mem_of_getElem? hs)
      have hta : (l.take (k + 1)).all (inS p) = inS p s := by rw [List.take_add_one, hs, List.all_append, HOD.out]; simp
      have HTA := hide hta
      have hall : Hid (inS p s = false → l.all (inS p) = false) := hide (fun e => by
        rw [Bool.eq_false_iff]
        intro h
        have := List.all_eq_true.1 h s (List.mem_of_getElem? hs)
        rw [e] at this; cases this)
      have HC : Hid (Calls Tryz.prog 67 #[.agg s.cells, .pointer (some ⟨Mb, 0, none⟩)] wr fun e w' => e = .returned (.bool (!inS p s)) ∧ Below wr.heap.size wr w') := hide (pout_any s hok hsn (HM.out.bl hb) (HA.out.bl hb) (HP.out.bl hb))
      obtain ⟨bo, hbo⟩ : ∃ x, inS p s = x := ⟨_, rfl⟩
      rw [hbo] at HC HTA hall
      clear hs hta hbo hok htk hve
      cases bo with
      | false =>
        go_wp2_with (first | ((with_reducible refine ld_sm gb (k * 3) s cur _ hLr hmid ?_ ?_); exact rfl) | (go_at_call 67; (with_reducible refine HC.out.mono ?_); rintro e W2 ⟨rfl, hb2⟩))
        go_ret
        exact ⟨_, rfl, ⟨fun _ => hall.out (by first | rfl | trivial), fun _ => by omega⟩, hb.trans (hb2.mono hb.size)⟩
      | true =>
        go_wp2_with (first | ((with_reducible refine ld_sm gb (k * 3) s cur _ hLr hmid ?_ ?_); exact rfl) | (go_at_call 67; (with_reducible refine HC.out.mono ?_); rintro e W2 ⟨rfl, hb2⟩))
        go_roundw
        case rel => exact ⟨k + 1, hlt, by go_num, HTA.out, hb.trans (hb2.mono hb.size)⟩
        case measure => simp [intOf]; omega
    · obtain rfl : k = n := by omega
      go_wp2
      go_ret
      refine ⟨_, rfl, ⟨fun e => absurd e (by decide), fun e => ?_⟩, hb⟩
      have := HOD.out
      rw [← HN.out, List.take_length, e] at this
      cases this
set_option maxHeartbeats 1000000 in
theorem con_seg (l : List Sg) (hl : l.length ≤ 1000000000) (hw : ∀ s ∈ l, s.Ok ∧ 0 ≤ s.n) {w : World} {B b p c Mb Bl : Nat} {v : Value} {tM : TypeId} {f : Nat → Nat} {O : Nat → Prop} (hM : RamB w B b p f c O) (hA : AreasAt w) (hP : RowAt w Mb #[.pointer (some ⟨b, 0, none⟩)] tM) (hL : w.ownsRow Bl 70 3 v l.length (segL l)) :
    Calls Tryz.prog 66 #[v, .func (.func 67) #[] #[.pointer (some ⟨Mb, 0, none⟩)]] w fun e w' => e = .returned (.bool (!l.all (inS p))) ∧ Below w.heap.size w w' := by
  have HI := hide (idx_seg l hl hw hM hA hP hL)
  obtain ⟨ob, hob⟩ : ∃ x, l.all (inS p) = x := ⟨_, rfl⟩
  rw [hob] at HI ⊢
  clear hM hA hP hL hl hw hob
  go_enter Tryz.func66, Tryz.ntmps66
  go_wp2_with (first | (go_at_call 80; (with_reducible refine HI.out.mono ?_); rintro e W2 ⟨z, rfl, hz, hW2⟩; have HZ := hide hz; clear hz))
  go_ret
  refine ⟨?_, hW2⟩
  have hq : decide (0 ≤ z) = !ob := by
    have := HZ.out
    cases ob <;> simp_all
  exact congrArg (fun x => Ending.returned (.bool x)) hq
end Go.Proofs.YtghpjibjhaomoaaGreatDoor
namespace Go.Proofs.YtghpjibjhaomoaaGreatDoor
open Go.RowKit
set_option linter.unusedVariables false
set_option linter.unusedSimpArgs false

theorem op_box1 {P : Program} {ops : Array Oper} {rest : List Oper} {dst : Option Tmp} {ty t : TypeId} {pos : String} {after : Array Edge} {a : Act} {w : World} {Q : Exit → Act → World → Prop} {x : Operand} (N : Nat) (hN : w.heap.size = N) (v : Value) (hx : a.eval x = v) (hv : v.cells = #[v])
    (k : ∀ W, RowAt W N #[v] t → Below N w W → Hid (W.heap.size = N + 1) → wpList P ops Q rest (a.put dst (.pointer (some ⟨N, 0, none⟩))) W) :
    wpList P ops Q (⟨dst, .box t x, ty, pos, after, none⟩ :: rest) a w := by
  subst hN
  exact Great.wpList_boxTo rfl t x rfl dst rfl _ rfl #[v] (by rw [hx, hv]) (k _ (RowAt.new w _ #[v] t rfl) (below_one w _) (hide (by simp)))
/-- The parts that the first n bytes stand in. -/
def partsV (wr : Bool) : Int → List Sg → List Sg
  | _, [] => []
  | n, s :: t => if s.wr = wr ∧ 0 < s.n ∧ 0 < n then { s with n := if s.n ≤ n then s.n else n } :: partsV wr (n - if s.n ≤ n then s.n else n) t else partsV wr n t
/-- How many bytes are left behind the parts of l. -/
def leftV (wr : Bool) : Int → List Sg → Int
  | n, [] => n
  | n, s :: t => if s.wr = wr ∧ 0 < s.n ∧ 0 < n then leftV wr (n - if s.n ≤ n then s.n else n) t else leftV wr n t
theorem partsV_app (wr : Bool) : ∀ (l m : List Sg) (n : Int), partsV wr n (l ++ m) = partsV wr n l ++ partsV wr (leftV wr n l) m
  | [], m, n => rfl
  | s :: t, m, n => by
    simp only [List.cons_append, partsV, leftV]
    split
    · rw [partsV_app wr t m]; rfl
    · exact partsV_app wr t m n
theorem leftV_app (wr : Bool) : ∀ (l m : List Sg) (n : Int), leftV wr n (l ++ m) = leftV wr (leftV wr n l) m
  | [], m, n => rfl
  | s :: t, m, n => by
    simp only [List.cons_append, leftV]
    split
    · exact leftV_app wr t m _
    · exact leftV_app wr t m n
theorem partsV_ok (wr : Bool) : ∀ (l : List Sg) (n : Int), (∀ s ∈ l, s.Ok) → ∀ s ∈ partsV wr n l, s.Ok ∧ 0 ≤ s.n ∧ 0 < s.n ∧ s.wr = wr
  | [], _, _ => fun s h => by cases h
  | x :: t, n, h => by
    simp only [partsV]
    have ht := fun n => partsV_ok wr t n (fun s hs => h s (List.mem_cons_of_mem _ hs))
    split
    · rename_i hx
      intro s hs
      rcases List.mem_cons.1 hs with rfl | hs
      · have hk := h x (List.mem_cons_self ..)
        have h1 := hk.n0
        have h2 := hk.n1
        refine ⟨⟨hk.at', ?_, ?_⟩, ?_, ?_, hx.1⟩
        all_goals (show _ ; simp only; split <;> omega)
      · exact ht _ s hs
    · exact ht n
theorem partsV_len (wr : Bool) : ∀ (l : List Sg) (n : Int), (partsV wr n l).length ≤ l.length
  | [], _ => Nat.le_refl _
  | s :: t, n => by
    simp only [partsV]
    split
    · have := partsV_len wr t (n - if s.n ≤ n then s.n else n); simp; omega
    · have := partsV_len wr t n; simp; omega
theorem leftV_in (wr : Bool) : ∀ (l : List Sg) (n : Int), (∀ s ∈ l, s.Ok) → -9223372036854775808 ≤ n → n ≤ 9223372036854775807 → -9223372036854775808 ≤ leftV wr n l ∧ leftV wr n l ≤ 9223372036854775807
  | [], n, _, h1, h2 => ⟨h1, h2⟩
  | s :: t, n, h, h1, h2 => by
    simp only [leftV]
    have ht := fun n => leftV_in wr t n (fun s hs => h s (List.mem_cons_of_mem _ hs))
    split
    · apply ht
      · split <;> omega
      · split <;> omega
    · exact ht n h1 h2
set_option maxHeartbeats 4000000 in
theorem parts_any (l : List Sg) (hl : l.length ≤ 100000000) (hw : ∀ s ∈ l, s.Ok) (wb : Bool) (n0 : Int) (hn0 : -9223372036854775808 ≤ n0) (hn1 : n0 ≤ 9223372036854775807) {w : World} {B b p c Bl : Nat} {v : Value} {f : Nat → Nat} {O : Nat → Prop} (hM : RamB w B b p f c O) (hA : AreasAt w) (hL : w.ownsRow Bl 70 3 v l.length (segL l)) :
    Calls Tryz.prog 40 #[.pointer (some ⟨b, 0, none⟩), v, .bool wb, .int .i64 n0] w fun e w' => Below w.heap.size w w' ∧ (((partsV wb n0 l).all (inS p) = true ∧ ∃ v', e = .returned (.tuple #[v', .nilIface]) ∧ w'.ownsRow w.heap.size 70 3 v' (partsV wb n0 l).length (segL (partsV wb n0 l))) ∨ ((partsV wb n0 l).all (inS p) = false ∧ e = .returned (.tuple #[.slice none 0 0, .iface 84 (.int .i64 22)]))) := by
  have HM := hide hM
  have HA := hide hA
  have HL := hide hL
  obtain ⟨n, hn⟩ : ∃ n, l.length = n := ⟨_, rfl⟩
  have HN := hide hn
  rw [hn] at hl
  obtain ⟨av, cap, rfl, hc1, hc2⟩ := own_form hL
  rw [hn] at hc1 ⊢
  have hGw := hA.lt
  clear hM hA hL hn
  go_enter Tryz.func40, Tryz.ntmps40
  go_wp2_with (first | ((with_reducible refine op_box1 w.heap.size ?_ (.pointer (some ⟨b, 0, none⟩)) ?_ rfl ?_); exact rfl; exact rfl; intro W hP hb hz))
  go_loopw [3, 10, 15] (fun nv ov iv wr => ∃ (k : Nat), k ≤ n ∧ iv = .int .i64 (k : Nat) ∧ nv = .int .i64 (leftV wb n0 (l.take k)) ∧ wr.ownsRow (w.heap.size + 1) 70 3 ov (partsV wb n0 (l.take k)).length (segL (partsV wb n0 (l.take k))) ∧ RowAt wr w.heap.size #[.pointer (some ⟨b, 0, none⟩)] 27 ∧ Below w.heap.size w wr ∧ w.heap.size + 1 ≤ wr.heap.size) (fun nv ov iv _ => n - (intOf iv).toNat)
  case atStart => exact ⟨0, Nat.zero_le _, rfl, rfl, World.ownsRow_nil _ _ _ _, hP, hb, Nat.le_of_eq hz.out.symm⟩
  case round =>
    clear hP hb hz
    obtain ⟨k, hk, rfl, rfl, hO, hP, hb, hS⟩ := hrel
    have hle := leftV_in wb (l.take k) n0 (fun s hs => hw s (List.mem_of_mem_take hs)) hn0 hn1
    obtain ⟨pl, hpl⟩ : ∃ x, partsV wb n0 (l.take k) = x := ⟨_, rfl⟩
    obtain ⟨nl, hnl⟩ : ∃ x, leftV wb n0 (l.take k) = x := ⟨_, rfl⟩
    obtain ⟨pn, hpn⟩ : ∃ x, pl.length = x := ⟨_, rfl⟩
    have hpk : pn ≤ 100000000 := by
      have := partsV_len wb (l.take k) n0
      rw [hpl, hpn, List.length_take] at this
      omega
    rw [hpl, hpn] at hO
    rw [hnl] at hle ⊢
    have HPL := hide hpl
    have HNL := hide hnl
    have HPN := hide hpn
    obtain ⟨ov, oc, rfl, ho1, ho2⟩ := own_form hO
    clear hpl hnl hpn
    by_cases hlt : k < n
    · obtain ⟨gb, cap', cur, hve, _, _, _, hLr0, _, htk⟩ := own_row (own_bel HL.out hb) (show 0 < l.length by rw [HN.out]; omega)
      obtain ⟨rfl, rfl⟩ : av = some ⟨gb, 0, none⟩ ∧ cap = cap' := by injection hve with e1 e2 e3; exact ⟨e1, e3⟩
      have hgl : gb < w.heap.size := (HL.out.lt gb rfl).2
      have hLr := hLr0
      obtain ⟨s, hs⟩ : ∃ s, l[k]? = some s := ⟨_, List.getElem?_eq_getElem (by rw [HN.out]; exact hlt)⟩
      have hmid := mid_s htk hs
      have hok := hw s (List.mem_of_getElem? hs)
      have ok0 := hok.n0
      have ok1 := hok.n1
      have ht1 : l.take (k + 1) = l.take k ++ [s] := by rw [List.take_add_one, hs]; rfl
      have hpa : partsV wb n0 (l.take (k + 1)) = pl ++ partsV wb nl [s] := by rw [ht1, partsV_app, HPL.out, HNL.out]
      have hna : leftV wb n0 (l.take (k + 1)) = leftV wb nl [s] := by rw [ht1, leftV_app, HNL.out]
      have HPA := hide hpa
      have HNA := hide hna
      have hlt' : (k : Int) < (n : Int) := by omega
      obtain ⟨ND, hND0⟩ : ∃ x, wr.heap.size = x := ⟨_, rfl⟩
      have hND := hide hND0
      have hd1 : w.heap.size + 1 ≤ ND := hND0 ▸ hS
      have hdv : ∀ g, (Value.slice ov pn oc).ownBlock = some g → w.heap.size + 1 ≤ g ∧ g < ND := fun g hg => hND0 ▸ hO.lt g hg
      clear hs htk hve hpa hna ht1 hok hND0
      by_cases hcon : s.wr = wb ∧ 0 < s.n ∧ 0 < nl
      · obtain ⟨q1, q2, q3⟩ := hcon
        have hp1 : partsV wb nl [s] = [{ s with n := if s.n ≤ nl then s.n else nl }] := by simp only [partsV]; rw [if_pos ⟨q1, q2, q3⟩]
        have hn1' : leftV wb nl [s] = nl - if s.n ≤ nl then s.n else nl := by simp only [leftV]; rw [if_pos ⟨q1, q2, q3⟩]
        rw [hp1] at HPA
        rw [hn1'] at HNA
        have te : (s.wr == wb) = true := by simp [q1]
        clear hp1 hn1'
        obtain ⟨mn, hmn⟩ : ∃ x, (if s.n ≤ nl then s.n else nl) = x := ⟨_, rfl⟩
        rw [hmn] at HPA HNA
        have hmb : 0 < mn ∧ mn ≤ nl ∧ mn ≤ s.n := by rw [← hmn]; split <;> omega
        have emin : min s.n nl = mn := by rw [← hmn, Int.min_def]
        have emi2 : Hid ((if s.n ≤ nl then s.n else nl) = mn) := hide hmn
        obtain ⟨s2, hs2⟩ : ∃ x : Sg, { s with n := mn } = x := ⟨_, rfl⟩
        rw [hs2] at HPA
        have hs2n : s2.n = mn := by rw [← hs2]
        have HS2 := hide hs2
        clear hmn q1 hs2
        go_wp2_with (first | ((with_reducible refine ld_sm gb (k * 3) s cur _ hLr hmid ?_ ?_); exact rfl) | ((with_reducible refine al_sp ND ?_ ?_); exact hND.out; intro W hsr hb' hz; have hbc := hND.out ▸ hb'; replace hb := hb.trans (hb'.mono (by omega)); replace hP := hP.bl hbc; replace hLr := hLr.bl hbc; replace hO := own_bel hO hbc; replace hS := Nat.le_trans hS hbc.size; clear hb' hbc) | ((with_reducible refine st_sp ND _ s hsr ?_ ?_ ?_); exact rfl; exact rfl; intro W hnew ho; replace hz := hide (ho.size.trans hz.out); replace hP := hP.only ho (by omega); replace hLr := hLr.only ho (by omega); replace hO := own_only hO ho (fun e => absurd (hdv _ e).2 (by omega)); replace hb := ho.bel _ _ (by omega) hb; replace hS := (show w.heap.size + 1 ≤ W.heap.size by rw [ho.size]; exact hS); replace hsr := hnew; clear hnew ho) | ((with_reducible refine ld_swr ND _ _ hsr ?_ ?_ ?_); exact rfl; exact rfl) | ((with_reducible refine ld_sn ND _ _ hsr ?_ ?_ ?_); exact rfl; exact rfl) | ((with_reducible refine st_sn ND _ mn _ hsr ?_ ?_ ?_); exact rfl; (first | exact rfl | (exact congrArg _ emi2.out)); intro W hnew ho; rw [HS2.out] at hnew; replace hz := hide (ho.size.trans hz.out); replace hP := hP.only ho (by omega); replace hLr := hLr.only ho (by omega); replace hO := own_only hO ho (fun e => absurd (hdv _ e).2 (by omega)); replace hb := ho.bel _ _ (by omega) hb; replace hS := (show w.heap.size + 1 ≤ W.heap.size by rw [ho.size]; exact hS); replace hsr := hnew; clear hnew ho) | ((with_reducible refine ld_sp ND s2 hsr ?_ ?_ ?_); exact rfl; exact rfl) | ((with_reducible refine bs_s (ND + 1) ?_ s2 ?_ ?_); exact hz.out; exact rfl; intro W hbr hb' hz'; have hbc := hz.out ▸ hb'; replace hb := hb.trans (hb'.mono (by omega)); replace hP := hP.bl hbc; replace hO := own_bel hO hbc; replace hS := Nat.le_trans hS hbc.size; clear hb' hbc hz') | ((with_reducible refine app_s pl s2 pn HPN.out hO (ND + 1) hbr (by omega) hS ?_ ?_ ?_); exact rfl; exact rfl; intro W v' hL2 hg hbk; replace hP := grow_row hP hg (fun e => absurd (hdv _ e).1 (by omega)); have hwS := Nat.le_trans (Nat.le_succ _) hS; replace hb := grow_below hb hg hwS (fun g e => by have := (hdv g e).1; omega); replace hS := Nat.le_trans hS hg.size; replace hO := hL2; clear hL2 hg hbr))
        go_roundw
        case rel => exact ⟨k + 1, hlt, by go_num, by (rw [HNA.out]), by rw [HPA.out, List.length_append, HPN.out]; exact hO, hP, hb, hS⟩
        case measure => simp [intOf]; omega
      · have hp1 : partsV wb nl [s] = [] := by simp only [partsV]; rw [if_neg hcon]
        have hn1' : leftV wb nl [s] = nl := by simp only [leftV]; rw [if_neg hcon]
        rw [hp1, List.append_nil] at HPA
        rw [hn1'] at HNA
        clear hp1 hn1'
        by_cases q1 : s.wr = wb
        · have te : (s.wr == wb) = true := by simp [q1]
          by_cases q2 : 0 < s.n
          · have q3 : ¬ 0 < nl := fun e => hcon ⟨q1, q2, e⟩
            have t3 : decide (0 < nl) = false := by simpa using q3
            clear hcon q1
            go_wp2_with (first | ((with_reducible refine ld_sm gb (k * 3) s cur _ hLr hmid ?_ ?_); exact rfl) | ((with_reducible refine al_sp ND ?_ ?_); exact hND.out; intro W hsr hb' hz; have hbc := hND.out ▸ hb'; replace hb := hb.trans (hb'.mono (by omega)); replace hP := hP.bl hbc; replace hLr := hLr.bl hbc; replace hO := own_bel hO hbc; replace hS := Nat.le_trans hS hbc.size; clear hb' hbc) | ((with_reducible refine st_sp ND _ s hsr ?_ ?_ ?_); exact rfl; exact rfl; intro W hnew ho; replace hz := hide (ho.size.trans hz.out); replace hP := hP.only ho (by omega); replace hLr := hLr.only ho (by omega); replace hO := own_only hO ho (fun e => absurd (hdv _ e).2 (by omega)); replace hb := ho.bel _ _ (by omega) hb; replace hS := (show w.heap.size + 1 ≤ W.heap.size by rw [ho.size]; exact hS); replace hsr := hnew; clear hnew ho) | ((with_reducible refine ld_swr ND _ _ hsr ?_ ?_ ?_); exact rfl; exact rfl) | ((with_reducible refine ld_sn ND _ _ hsr ?_ ?_ ?_); exact rfl; exact rfl))
            go_roundw
            case rel => exact ⟨k + 1, hlt, by go_num, by rw [HNA.out], by rw [HPA.out, HPN.out]; exact hO, hP, hb, hS⟩
            case measure => simp [intOf]; omega
          · have t2 : decide (0 < s.n) = false := by simpa using q2
            clear hcon q1
            go_wp2_with (first | ((with_reducible refine ld_sm gb (k * 3) s cur _ hLr hmid ?_ ?_); exact rfl) | ((with_reducible refine al_sp ND ?_ ?_); exact hND.out; intro W hsr hb' hz; have hbc := hND.out ▸ hb'; replace hb := hb.trans (hb'.mono (by omega)); replace hP := hP.bl hbc; replace hLr := hLr.bl hbc; replace hO := own_bel hO hbc; replace hS := Nat.le_trans hS hbc.size; clear hb' hbc) | ((with_reducible refine st_sp ND _ s hsr ?_ ?_ ?_); exact rfl; exact rfl; intro W hnew ho; replace hz := hide (ho.size.trans hz.out); replace hP := hP.only ho (by omega); replace hLr := hLr.only ho (by omega); replace hO := own_only hO ho (fun e => absurd (hdv _ e).2 (by omega)); replace hb := ho.bel _ _ (by omega) hb; replace hS := (show w.heap.size + 1 ≤ W.heap.size by rw [ho.size]; exact hS); replace hsr := hnew; clear hnew ho) | ((with_reducible refine ld_swr ND _ _ hsr ?_ ?_ ?_); exact rfl; exact rfl) | ((with_reducible refine ld_sn ND _ _ hsr ?_ ?_ ?_); exact rfl; exact rfl))
            go_roundw
            case rel => exact ⟨k + 1, hlt, by go_num, by rw [HNA.out], by rw [HPA.out, HPN.out]; exact hO, hP, hb, hS⟩
            case measure => simp [intOf]; omega
        · have te : (s.wr == wb) = false := by simpa using q1
          clear hcon
          go_wp2_with (first | ((with_reducible refine ld_sm gb (k * 3) s cur _ hLr hmid ?_ ?_); exact rfl) | ((with_reducible refine al_sp ND ?_ ?_); exact hND.out; intro W hsr hb' hz; have hbc := hND.out ▸ hb'; replace hb := hb.trans (hb'.mono (by omega)); replace hP := hP.bl hbc; replace hLr := hLr.bl hbc; replace hO := own_bel hO hbc; replace hS := Nat.le_trans hS hbc.size; clear hb' hbc) | ((with_reducible refine st_sp ND _ s hsr ?_ ?_ ?_); exact rfl; exact rfl; intro W hnew ho; replace hz := hide (ho.size.trans hz.out); replace hP := hP.only ho (by omega); replace hLr := hLr.only ho (by omega); replace hO := own_only hO ho (fun e => absurd (hdv _ e).2 (by omega)); replace hb := ho.bel _ _ (by omega) hb; replace hS := (show w.heap.size + 1 ≤ W.heap.size by rw [ho.size]; exact hS); replace hsr := hnew; clear hnew ho) | ((with_reducible refine ld_swr ND _ _ hsr ?_ ?_ ?_); exact rfl; exact rfl) | ((with_reducible refine ld_sn ND _ _ hsr ?_ ?_ ?_); exact rfl; exact rfl))
          go_roundw
          case rel => exact ⟨k + 1, hlt, by go_num, by rw [HNA.out], by rw [HPA.out, HPN.out]; exact hO, hP, hb, hS⟩
          case measure => simp [intOf]; omega
    · obtain rfl : k = n := by omega
      have htl : l.take k = l := by rw [← HN.out, List.take_length]
      rw [htl] at HPL
      have hpok := partsV_ok wb l n0 hw
      rw [HPL.out] at hpok
      have HC : Hid (Calls Tryz.prog 66 #[.slice ov pn oc, .func (.func 67) #[] #[.pointer (some ⟨w.heap.size, 0, none⟩)]] wr fun e w' => e = .returned (.bool (!pl.all (inS p))) ∧ Below wr.heap.size wr w') := hide (con_seg pl (by rw [HPN.out]; omega) (fun s hs => ⟨(hpok s hs).1, (hpok s hs).2.1⟩) (HM.out.bl hb) (HA.out.bl hb) hP (by rw [HPN.out]; exact hO))
      obtain ⟨bo, hbo⟩ : ∃ x, pl.all (inS p) = x := ⟨_, rfl⟩
      rw [hbo] at HC
      have HBO := hide hbo
      have hnlt : ¬ (k : Int) < (k : Int) := by omega
      clear hbo hpok
      cases bo with
      | true =>
        go_wp2_with (first | (go_at_call 66; (with_reducible refine HC.out.mono ?_); rintro e W2 ⟨rfl, hb2⟩))
        go_ret2
        exact ⟨hb.trans (hb2.mono hb.size), .inl ⟨by rw [HPL.out]; exact HBO.out, _, rfl, by rw [HPL.out, HPN.out]; exact own_lower1 (own_bel hO hb2)⟩⟩
      | false =>
        go_wp2_with (first | (go_at_call 66; (with_reducible refine HC.out.mono ?_); rintro e W2 ⟨rfl, hb2⟩))
        go_ret2
        exact ⟨hb.trans (hb2.mono hb.size), .inr ⟨by rw [HPL.out]; exact HBO.out, rfl⟩⟩
end Go.Proofs.YtghpjibjhaomoaaGreatDoor
