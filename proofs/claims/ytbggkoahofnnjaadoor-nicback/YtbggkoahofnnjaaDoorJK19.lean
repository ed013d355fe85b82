/-
  Bytes of one's own as a text.
-/
import Derived.Test.YtbggkoahofnnjaaDoorJK18
import Derived.Test.YtbggkoahofnnjaaDoorJK9
namespace Go.Proofs.YtbggkoahofnnjaaDoor
open Go.RowKit
set_option linter.unusedVariables false
set_option linter.unusedSimpArgs false

/-- Has a memory of p pages all bytes of a part? -/
def inS (p : Nat) (s : Sg) : Bool := plB p s.at' s.n.toNat
set_option maxHeartbeats 1000000 in
theorem pout_any (s : Sg) (hs : s.Ok) (h0 : 0 ≤ s.n) {w : World} {B b p c Mb : Nat} {tM : TypeId} {f : Nat → Nat} {O : Nat → Prop} (hM : RamB w B b p f c O) (hA : AreasAt w) (hP : RowAt w Mb #[.pointer (some ⟨b, 0, none⟩)] tM) :
    Calls Tryd.prog 64 #[.agg s.cells, .pointer (some ⟨Mb, 0, none⟩)] w fun e w' => e = .returned (.bool (!inS p s)) ∧ Below w.heap.size w w' := by
  obtain ⟨n, hn⟩ := Int.eq_ofNat_of_zero_le h0
  have hnl := hs.n1
  have HIN : Hid (∀ W, RamB W B b p f c O → AreasAt W → Calls Tryd.prog 52 #[.pointer (some ⟨b, 0, none⟩), .int .u32 (s.at' : Nat), .int .u64 (n : Nat)] W fun e w' => e = .returned (.bool (inS p s)) ∧ Below W.heap.size W w') := hide (fun W hM hA => by have := isin_b hM hA s.at' n hs.at' (by omega); unfold inS; rw [hn, Int.toNat_natCast]; exact this)
  have ecv : Hid (IntKind.u64.wrap s.n = (n : Int)) := hide (by rw [hn, IntKind.wrap_u64]; omega)
  have ecv2 : IntKind.u64.wrap s.n = (n : Int) := ecv.out
  generalize inS p s = bo at HIN ⊢
  clear hs h0 hn
  go_enter Tryd.func64, Tryd.ntmps64
  go_wp2_with (first | ((with_reducible refine bx_sp w.heap.size s ?_ ?_ ?_); exact rfl; exact rfl; intro W hr hb hz; replace hP := hP.bl hb; replace hM := hM.bl hb; replace hA := hA.bl hb) | ((with_reducible refine ld_pm1 Mb _ _ hP ?_ ?_ ?_); exact rfl; exact rfl) | ((with_reducible refine ld_sat w.heap.size _ _ hr ?_ ?_ ?_); exact rfl; exact rfl) | ((with_reducible refine ld_sn w.heap.size _ _ hr ?_ ?_ ?_); exact rfl; exact rfl) | (go_at_call 52; (with_reducible refine (HIN.out _ hM hA).mono ?_); rintro e W ⟨rfl, hbc⟩; replace hb := below_bl rfl hb hbc))
  go_ret
  exact ⟨rfl, hb⟩
set_option maxHeartbeats 2000000 in
theorem idx_seg (l : List Sg) (hl : l.length ≤ 1000000000) (hw : ∀ s ∈ l, s.Ok ∧ 0 ≤ s.n) {w : World} {B b p c Mb Bl : Nat} {v : Value} {tM : TypeId} {f : Nat → Nat} {O : Nat → Prop} (hM : RamB w B b p f c O) (hA : AreasAt w) (hP : RowAt w Mb #[.pointer (some ⟨b, 0, none⟩)] tM) (hL : w.ownsRow Bl 104 3 v l.length (segL l)) :
    Calls Tryd.prog 69 #[v, .func (.func 64) #[] #[.pointer (some ⟨Mb, 0, none⟩)]] w fun e w' => ∃ z : Int, e = .returned (.int .i64 z) ∧ (0 ≤ z ↔ l.all (inS p) = false) ∧ Below w.heap.size w w' := by
  have HM := hide hM
  have HA := hide hA
  have HP := hide hP
  have HL := hide hL
  obtain ⟨n, hn⟩ : ∃ n, l.length = n := ⟨_, rfl⟩
  have HN := hide hn
  rw [hn] at hl
  obtain ⟨av, cap, rfl, hc1, hc2⟩ := own_form hL
  rw [hn] at hc1 ⊢
  clear hM hA hP hL hn
  go_enter Tryd.func69, Tryd.ntmps69
  go_wp2
  go_loopw [8] (fun iv wr => ∃ (k : Nat), k ≤ n ∧ iv = .int .i64 (k : Nat) ∧ (l.take k).all (inS p) = true ∧ Below w.heap.size w wr) (fun iv _ => n - (intOf iv).toNat)
  case atStart => exact ⟨0, Nat.zero_le _, rfl, rfl, Below.refl _ _⟩
  case round =>
    obtain ⟨k, hk, rfl, hod, hb⟩ := hrel
    have HOD := hide hod
    clear hod
    by_cases hlt : k < n
    · obtain ⟨gb, cap', cur, hve, _, _, _, hLr0, _, htk⟩ := own_row (own_bel HL.out hb) (show 0 < l.length by rw [HN.out]; omega)
      obtain ⟨rfl, rfl⟩ : av = some ⟨gb, 0, none⟩ ∧ cap = cap' := by injection hve with e1 e2 e3; exact ⟨e1, e3⟩
      have hLr := hLr0
      obtain ⟨s, hs⟩ : ∃ s, l[k]? = some s := ⟨_, List.getElem?_eq_getElem (by rw [HN.out]; exact hlt)⟩
      have hmid := mid_s htk hs
      obtain ⟨hok, hsn⟩ := hw s (List.mem_of_getElem? hs)
      have hta : (l.take (k + 1)).all (inS p) = inS p s := by rw [List.take_add_one, hs, List.all_append, HOD.out]; simp
      have HTA := hide hta
      have hall : Hid (inS p s = false → l.all (inS p) = false) := hide (fun e => by
        rw [Bool.eq_false_iff]
        intro h
        have := List.all_eq_true.1 h s (List.mem_of_getElem? hs)
        rw [e] at this; cases this)
      have HC : Hid (Calls Tryd.prog 64 #[.agg s.cells, .pointer (some ⟨Mb, 0, none⟩)] wr fun e w' => e = .returned (.bool (!inS p s)) ∧ Below wr.heap.size wr w') := hide (pout_any s hok hsn (HM.out.bl hb) (HA.out.bl hb) (HP.out.bl hb))
      obtain ⟨bo, hbo⟩ : ∃ x, inS p s = x := ⟨_, rfl⟩
      rw [hbo] at HC HTA hall
      clear hs hta hbo hok htk hve
      cases bo with
      | false =>
        go_wp2_with (first | ((with_reducible refine ld_sm gb (k * 3) s cur _ hLr hmid ?_ ?_); exact rfl) | (go_at_call 64; (with_reducible refine HC.out.mono ?_); rintro e W2 ⟨rfl, hb2⟩))
        go_ret
        exact ⟨_, rfl, ⟨fun _ => hall.out (by first | rfl | trivial), fun _ => by omega⟩, hb.trans (hb2.mono hb.size)⟩
      | true =>
        go_wp2_with (first | ((with_reducible refine ld_sm gb (k * 3) s cur _ hLr hmid ?_ ?_); exact rfl) | (go_at_call 64; (with_reducible refine HC.out.mono ?_); rintro e W2 ⟨rfl, hb2⟩))
        go_roundw
        case rel => exact ⟨k + 1, hlt, by go_num, HTA.out, hb.trans (hb2.mono hb.size)⟩
        case measure => simp [intOf]; omega
    · obtain rfl : k = n := by omega
      go_wp2
      go_ret
      refine ⟨_, rfl, ⟨fun e => absurd e (by decide), fun e => ?_⟩, hb⟩
      have := HOD.out
      rw [← HN.out, List.take_length, e] at this
      cases this
set_option maxHeartbeats 1000000 in
theorem con_seg (l : List Sg) (hl : l.length ≤ 1000000000) (hw : ∀ s ∈ l, s.Ok ∧ 0 ≤ s.n) {w : World} {B b p c Mb Bl : Nat} {v : Value} {tM : TypeId} {f : Nat → Nat} {O : Nat → Prop} (hM : RamB w B b p f c O) (hA : AreasAt w) (hP : RowAt w Mb #[.pointer (some ⟨b, 0, none⟩)] tM) (hL : w.ownsRow Bl 104 3 v l.length (segL l)) :
    Calls Tryd.prog 63 #[v, .func (.func 64) #[] #[.pointer (some ⟨Mb, 0, none⟩)]] w fun e w' => e = .returned (.bool (!l.all (inS p))) ∧ Below w.heap.size w w' := by
  have HI := hide (idx_seg l hl hw hM hA hP hL)
  obtain ⟨ob, hob⟩ : ∃ x, l.all (inS p) = x := ⟨_, rfl⟩
  rw [hob] at HI ⊢
  clear hM hA hP hL hl hw hob
  go_enter Tryd.func63, Tryd.ntmps63
  go_wp2_with (first | (go_at_call 69; (with_reducible refine HI.out.mono ?_); rintro e W2 ⟨z, rfl, hz, hW2⟩; have HZ := hide hz; clear hz))
  go_ret
  refine ⟨?_, hW2⟩
  have hq : decide (0 ≤ z) = !ob := by
    have := HZ.out
    cases ob <;> simp_all
  exact congrArg (fun x => Ending.returned (.bool x)) hq
end Go.Proofs.YtbggkoahofnnjaaDoor
namespace Go.Proofs.YtbggkoahofnnjaaDoor
open Go.RowKit
set_option linter.unusedVariables false
set_option linter.unusedSimpArgs false

theorem op_box1 {P : Program} {ops : Array Oper} {rest : List Oper} {dst : Option Tmp} {ty t : TypeId} {pos : String} {after : Array Edge} {a : Act} {w : World} {Q : Exit → Act → World → Prop} {x : Operand} (N : Nat) (hN : w.heap.size = N) (v : Value) (hx : a.eval x = v) (hv : v.cells = #[v])
    (k : ∀ W, RowAt W N #[v] t → Below N w W → Hid (W.heap.size = N + 1) → wpList P ops Q rest (a.put dst (.pointer (some ⟨N, 0, none⟩))) W) :
    wpList P ops Q (⟨dst, .box t x, ty, pos, after, none⟩ :: rest) a w := by
  subst hN
  exact Great.wpList_boxTo rfl t x rfl dst rfl _ rfl #[v] (by rw [hx, hv]) (k _ (RowAt.new w _ #[v] t rfl) (below_one w _) (hide (by simp)))
/-- The parts that the first n bytes stand in. -/
def partsV (wr : Bool) : Int → List Sg → List Sg
  | _, [] => []
  | n, s :: t => if s.wr = wr ∧ 0 < s.n ∧ 0 < n then { s with n := if s.n ≤ n then s.n else n } :: partsV wr (n - if s.n ≤ n then s.n else n) t else partsV wr n t
/-- How many bytes are left behind the parts of l. -/
def leftV (wr : Bool) : Int → List Sg → Int
  | n, [] => n
  | n, s :: t => if s.wr = wr ∧ 0 < s.n ∧ 0 < n then leftV wr (n - if s.n ≤ n then s.n else n) t else leftV wr n t
theorem partsV_app (wr : Bool) : ∀ (l m : List Sg) (n : Int), partsV wr n (l ++ m) = partsV wr n l ++ partsV wr (leftV wr n l) m
  | [], m, n => rfl
  | s :: t, m, n => by
    simp only [List.cons_append, partsV, leftV]
    split
    · rw [partsV_app wr t m]; rfl
    · exact partsV_app wr t m n
theorem leftV_app (wr : Bool) : ∀ (l m : List Sg) (n : Int), leftV wr n (l ++ m) = leftV wr (leftV wr n l) m
  | [], m, n => rfl
  | s :: t, m, n => by
    simp only [List.cons_append, leftV]
    split
    · exact leftV_app wr t m _
    · exact leftV_app wr t m n
theorem partsV_ok (wr : Bool) : ∀ (l : List Sg) (n : Int), (∀ s ∈ l, s.Ok) → ∀ s ∈ partsV wr n l, s.Ok ∧ 0 ≤ s.n ∧ 0 < s.n ∧ s.wr = wr
  | [], _, _ => fun s h => by cases h
  | x :: t, n, h => by
    simp only [partsV]
    have ht := fun n => partsV_ok wr t n (fun s hs => h s (List.mem_cons_of_mem _ hs))
    split
    · rename_i hx
      intro s hs
      rcases List.mem_cons.1 hs with rfl | hs
      · have hk := h x (List.mem_cons_self ..)
        have h1 := hk.n0
        have h2 := hk.n1
        refine ⟨⟨hk.at', ?_, ?_⟩, ?_, ?_, hx.1⟩
        all_goals (show _ ; simp only; split <;> omega)
      · exact ht _ s hs
    · exact ht n
theorem partsV_len (wr : Bool) : ∀ (l : List Sg) (n : Int), (partsV wr n l).length ≤ l.length
  | [], _ => Nat.le_refl _
  | s :: t, n => by
    simp only [partsV]
    split
    · have := partsV_len wr t (n - if s.n ≤ n then s.n else n); simp; omega
    · have := partsV_len wr t n; simp; omega
theorem leftV_in (wr : Bool) : ∀ (l : List Sg) (n : Int), (∀ s ∈ l, s.Ok) → -9223372036854775808 ≤ n → n ≤ 9223372036854775807 → -9223372036854775808 ≤ leftV wr n l ∧ leftV wr n l ≤ 9223372036854775807
  | [], n, _, h1, h2 => ⟨h1, h2⟩
  | s :: t, n, h, h1, h2 => by
    simp only [leftV]
    have ht := fun n => leftV_in wr t n (fun s hs => h s (List.mem_cons_of_mem _ hs))
    split
    · apply ht
      · split <;> omega
      · split <;> omega
    · exact ht n h1 h2
set_option maxHeartbeats 4000000 in
theorem parts_any (l : List Sg) (hl : l.length ≤ 100000000) (hw : ∀ s ∈ l, s.Ok) (wb : Bool) (n0 : Int) (hn0 : -9223372036854775808 ≤ n0) (hn1 : n0 ≤ 9223372036854775807) {w : World} {B b p c Bl : Nat} {v : Value} {f : Nat → Nat} {O : Nat → Prop} (hM : RamB w B b p f c O) (hA : AreasAt w) (hL : w.ownsRow Bl 104 3 v l.length (segL l)) :
    Calls Tryd.prog 49 #[.pointer (some ⟨b, 0, none⟩), v, .bool wb, .int .i64 n0] w fun e w' => Below w.heap.size w w' ∧ (((partsV wb n0 l).all (inS p) = true ∧ ∃ v', e = .returned (.tuple #[v', .nilIface]) ∧ w'.ownsRow w.heap.size 104 3 v' (partsV wb n0 l).length (segL (partsV wb n0 l))) ∨ ((partsV wb n0 l).all (inS p) = false ∧ e = .returned (.tuple #[.slice none 0 0, .iface 59 (.int .i64 22)]))) := by
  have HM := hide hM
  have HA := hide hA
  have HL := hide hL
  obtain ⟨n, hn⟩ : ∃ n, l.length = n := ⟨_, rfl⟩
  have HN := hide hn
  rw [hn] at hl
  obtain ⟨av, cap, rfl, hc1, hc2⟩ := own_form hL
  rw [hn] at hc1 ⊢
  have hGw := hA.lt
  clear hM hA hL hn
  go_enter Tryd.func49, Tryd.ntmps49
  go_wp2_with (first | ((with_reducible refine op_box1 w.heap.size ?_ (.pointer (some ⟨b, 0, none⟩)) ?_ rfl ?_); exact rfl; exact rfl; intro W hP hb hz))
  go_loopw [3, 10, 15] (fun nv ov iv wr => ∃ (k : Nat), k ≤ n ∧ iv = .int .i64 (k : Nat) ∧ nv = .int .i64 (leftV wb n0 (l.take k)) ∧ wr.ownsRow (w.heap.size + 1) 104 3 ov (partsV wb n0 (l.take k)).length (segL (partsV wb n0 (l.take k))) ∧ RowAt wr w.heap.size #[.pointer (some ⟨b, 0, none⟩)] 26 ∧ Below w.heap.size w wr ∧ w.heap.size + 1 ≤ wr.heap.size) (fun nv ov iv _ => n - (intOf iv).toNat)
  case atStart => exact ⟨0, Nat.zero_le _, rfl, rfl, World.ownsRow_nil _ _ _ _, hP, hb, Nat.le_of_eq hz.out.symm⟩
  case round =>
    clear hP hb hz
    obtain ⟨k, hk, rfl, rfl, hO, hP, hb, hS⟩ := hrel
    have hle := leftV_in wb (l.take k) n0 (fun s hs => hw s (List.mem_of_mem_take hs)) hn0 hn1
    obtain ⟨pl, hpl⟩ : ∃ x, partsV wb n0 (l.take k) = x := ⟨_, rfl⟩
    obtain ⟨nl, hnl⟩ : ∃ x, leftV wb n0 (l.take k) = x := ⟨_, rfl⟩
    obtain ⟨pn, hpn⟩ : ∃ x, pl.length = x := ⟨_, rfl⟩
    have hpk : pn ≤ 100000000 := by
      have := partsV_len wb (l.take k) n0
      rw [hpl, hpn, List.length_take] at this
      omega
    rw [hpl, hpn] at hO
    rw [hnl] at hle ⊢
    have HPL := hide hpl
    have HNL := hide hnl
    have HPN := hide hpn
    obtain ⟨ov, oc, rfl, ho1, ho2⟩ := own_form hO
    clear hpl hnl hpn
    by_cases hlt : k < n
    · obtain ⟨gb, cap', cur, hve, _, _, _, hLr0, _, htk⟩ := own_row (own_bel HL.out hb) (show 0 < l.length by rw [HN.out]; omega)
      obtain ⟨rfl, rfl⟩ : av = some ⟨gb, 0, none⟩ ∧ cap = cap' := by injection hve with e1 e2 e3; exact ⟨e1, e3⟩
      have hgl : gb < w.heap.size := (HL.out.lt gb rfl).2
      have hLr := hLr0
      obtain ⟨s, hs⟩ : ∃ s, l[k]? = some s := ⟨_, List.getElem?_eq_getElem (by rw [HN.out]; exact hlt)⟩
      have hmid := mid_s htk hs
      have hok := hw s (List.mem_of_getElem? hs)
      have ok0 := hok.n0
      have ok1 := hok.n1
      have ht1 : l.take (k + 1) = l.take k ++ [s] := by rw [List.take_add_one, hs]; rfl
      have hpa : partsV wb n0 (l.take (k + 1)) = pl ++ partsV wb nl [s] := by rw [ht1, partsV_app, HPL.out, HNL.out]
      have hna : leftV wb n0 (l.take (k + 1)) = leftV wb nl [s] := by rw [ht1, leftV_app, HNL.out]
      have HPA := hide hpa
      have HNA := hide hna
      have hlt' : (k : Int) < (n : Int) := by omega
      obtain ⟨ND, hND0⟩ : ∃ x, wr.heap.size = x := ⟨_, rfl⟩
      have hND := hide hND0
      have hd1 : w.heap.size + 1 ≤ ND := hND0 ▸ hS
      have hdv : ∀ g, (Value.slice ov pn oc).ownBlock = some g → w.heap.size + 1 ≤ g ∧ g < ND := fun g hg => hND0 ▸ hO.lt g hg
      clear hs htk hve hpa hna ht1 hok hND0
      by_cases hcon : s.wr = wb ∧ 0 < s.n ∧ 0 < nl
      · obtain ⟨q1, q2, q3⟩ := hcon
        have hp1 : partsV wb nl [s] = [{ s with n := if s.n ≤ nl then s.n else nl }] := by simp only [partsV]; rw [if_pos ⟨q1, q2, q3⟩]
        have hn1' : leftV wb nl [s] = nl - if s.n ≤ nl then s.n else nl := by simp only [leftV]; rw [if_pos ⟨q1, q2, q3⟩]
        rw [hp1] at HPA
        rw [hn1'] at HNA
        have te : (s.wr == wb) = true := by simp [q1]
        clear hp1 hn1'
        obtain ⟨mn, hmn⟩ : ∃ x, (if s.n ≤ nl then s.n else nl) = x := ⟨_, rfl⟩
        rw [hmn] at HPA HNA
        have hmb : 0 < mn ∧ mn ≤ nl ∧ mn ≤ s.n := by rw [← hmn]; split <;> omega
        have emin : min s.n nl = mn := by rw [← hmn, Int.min_def]
        have emi2 : Hid ((if s.n ≤ nl then s.n else nl) = mn) := hide hmn
        obtain ⟨s2, hs2⟩ : ∃ x : Sg, { s with n := mn } = x := ⟨_, rfl⟩
        rw [hs2] at HPA
        have hs2n : s2.n = mn := by rw [← hs2]
        have HS2 := hide hs2
        clear hmn q1 hs2
        go_wp2_with (first | ((with_reducible refine ld_sm gb (k * 3) s cur _ hLr hmid ?_ ?_); exact rfl) | ((with_reducible refine al_sp ND ?_ ?_); exact hND.out; intro W hsr hb' hz; have hbc := hND.out ▸ hb'; replace hb := hb.trans (hb'.mono (by omega)); replace hP := hP.bl hbc; replace hLr := hLr.bl hbc; replace hO := own_bel hO hbc; replace hS := Nat.le_trans hS hbc.size; clear hb' hbc) | ((with_reducible refine st_sp ND _ s hsr ?_ ?_ ?_); exact rfl; exact rfl; intro W hnew ho; replace hz := hide (ho.size.trans hz.out); replace hP := hP.only ho (by omega); replace hLr := hLr.only ho (by omega); replace hO := own_only hO ho (fun e => absurd (hdv _ e).2 (by omega)); replace hb := ho.bel _ _ (by omega) hb; replace hS := (show w.heap.size + 1 ≤ W.heap.size by rw [ho.size]; exact hS); replace hsr := hnew; clear hnew ho) | ((with_reducible refine ld_swr ND _ _ hsr ?_ ?_ ?_); exact rfl; exact rfl) | ((with_reducible refine ld_sn ND _ _ hsr ?_ ?_ ?_); exact rfl; exact rfl) | ((with_reducible refine st_sn ND _ mn _ hsr ?_ ?_ ?_); exact rfl; (first | exact rfl | (exact congrArg _ emi2.out)); intro W hnew ho; rw [HS2.out] at hnew; replace hz := hide (ho.size.trans hz.out); replace hP := hP.only ho (by omega); replace hLr := hLr.only ho (by omega); replace hO := own_only hO ho (fun e => absurd (hdv _ e).2 (by omega)); replace hb := ho.bel _ _ (by omega) hb; replace hS := (show w.heap.size + 1 ≤ W.heap.size by rw [ho.size]; exact hS); replace hsr := hnew; clear hnew ho) | ((with_reducible refine ld_sp ND s2 hsr ?_ ?_ ?_); exact rfl; exact rfl) | ((with_reducible refine bs_s (ND + 1) ?_ s2 ?_ ?_); exact hz.out; exact rfl; intro W hbr hb' hz'; have hbc := hz.out ▸ hb'; replace hb := hb.trans (hb'.mono (by omega)); replace hP := hP.bl hbc; replace hO := own_bel hO hbc; replace hS := Nat.le_trans hS hbc.size; clear hb' hbc hz') | ((with_reducible refine app_s pl s2 pn HPN.out hO (ND + 1) hbr (by omega) hS ?_ ?_ ?_); exact rfl; exact rfl; intro W v' hL2 hg hbk; replace hP := grow_row hP hg (fun e => absurd (hdv _ e).1 (by omega)); have hwS := Nat.le_trans (Nat.le_succ _) hS; replace hb := grow_below hb hg hwS (fun g e => by have := (hdv g e).1; omega); replace hS := Nat.le_trans hS hg.size; replace hO := hL2; clear hL2 hg hbr))
        go_roundw
        case rel => exact ⟨k + 1, hlt, by go_num, by (rw [HNA.out]), by rw [HPA.out, List.length_append, HPN.out]; exact hO, hP, hb, hS⟩
        case measure => simp [intOf]; omega
      · have hp1 : partsV wb nl [s] = [] := by simp only [partsV]; rw [if_neg hcon]
        have hn1' : leftV wb nl [s] = nl := by simp only [leftV]; rw [if_neg hcon]
        rw [hp1, List.append_nil] at HPA
        rw [hn1'] at HNA
        clear hp1 hn1'
        by_cases q1 : s.wr = wb
        · have te : (s.wr == wb) = true := by simp [q1]
          by_cases q2 : 0 < s.n
          · have q3 : ¬ 0 < nl := fun e => hcon ⟨q1, q2, e⟩
            have t3 : decide (0 < nl) = false := by simpa using q3
            clear hcon q1
            go_wp2_with (first | ((with_reducible refine ld_sm gb (k * 3) s cur _ hLr hmid ?_ ?_); exact rfl) | ((with_reducible refine al_sp ND ?_ ?_); exact hND.out; intro W hsr hb' hz; have hbc := hND.out ▸ hb'; replace hb := hb.trans (hb'.mono (by omega)); replace hP := hP.bl hbc; replace hLr := hLr.bl hbc; replace hO := own_bel hO hbc; replace hS := Nat.le_trans hS hbc.size; clear hb' hbc) | ((with_reducible refine st_sp ND _ s hsr ?_ ?_ ?_); exact rfl; exact rfl; intro W hnew ho; replace hz := hide (ho.size.trans hz.out); replace hP := hP.only ho (by omega); replace hLr := hLr.only ho (by omega); replace hO := own_only hO ho (fun e => absurd (hdv _ e).2 (by omega)); replace hb := ho.bel _ _ (by omega) hb; replace hS := (show w.heap.size + 1 ≤ W.heap.size by rw [ho.size]; exact hS); replace hsr := hnew; clear hnew ho) | ((with_reducible refine ld_swr ND _ _ hsr ?_ ?_ ?_); exact rfl; exact rfl) | ((with_reducible refine ld_sn ND _ _ hsr ?_ ?_ ?_); exact rfl; exact rfl))
            go_roundw
            case rel => exact ⟨k + 1, hlt, by go_num, by rw [HNA.out], by rw [HPA.out, HPN.out]; exact hO, hP, hb, hS⟩
            case measure => simp [intOf]; omega
          · have t2 : decide (0 < s.n) = false := by simpa using q2
            clear hcon q1
            go_wp2_with (first | ((with_reducible refine ld_sm gb (k * 3) s cur _ hLr hmid ?_ ?_); exact rfl) | ((with_reducible refine al_sp ND ?_ ?_); exact hND.out; intro W hsr hb' hz; have hbc := hND.out ▸ hb'; replace hb := hb.trans (hb'.mono (by omega)); replace hP := hP.bl hbc; replace hLr := hLr.bl hbc; replace hO := own_bel hO hbc; replace hS := Nat.le_trans hS hbc.size; clear hb' hbc) | ((with_reducible refine st_sp ND _ s hsr ?_ ?_ ?_); exact rfl; exact rfl; intro W hnew ho; replace hz := hide (ho.size.trans hz.out); replace hP := hP.only ho (by omega); replace hLr := hLr.only ho (by omega); replace hO := own_only hO ho (fun e => absurd (hdv _ e).2 (by omega)); replace hb := ho.bel _ _ (by omega) hb; replace hS := (show w.heap.size + 1 ≤ W.heap.size by rw [ho.size]; exact hS); replace hsr := hnew; clear hnew ho) | ((with_reducible refine ld_swr ND _ _ hsr ?_ ?_ ?_); exact rfl; exact rfl) | ((with_reducible refine ld_sn ND _ _ hsr ?_ ?_ ?_); exact rfl; exact rfl))
            go_roundw
            case rel => exact ⟨k + 1, hlt, by go_num, by rw [HNA.out], by rw [HPA.out, HPN.out]; exact hO, hP, hb, hS⟩
            case measure => simp [intOf]; omega
        · have te : (s.wr == wb) = false := by simpa using q1
          clear hcon
          go_wp2_with (first | ((with_reducible refine ld_sm gb (k * 3) s cur _ hLr hmid ?_ ?_); exact rfl) | ((with_reducible refine al_sp ND ?_ ?_); exact hND.out; intro W hsr hb' hz; have hbc := hND.out ▸ hb'; replace hb := hb.trans (hb'.mono (by omega)); replace hP := hP.bl hbc; replace hLr := hLr.bl hbc; replace hO := own_bel hO hbc; replace hS := Nat.le_trans hS hbc.size; clear hb' hbc) | ((with_reducible refine st_sp ND _ s hsr ?_ ?_ ?_); exact rfl; exact rfl; intro W hnew ho; replace hz := hide (ho.size.trans hz.out); replace hP := hP.only ho (by omega); replace hLr := hLr.only ho (by omega); replace hO := own_only hO ho (fun e => absurd (hdv _ e).2 (by omega)); replace hb := ho.bel _ _ (by omega) hb; replace hS := (show w.heap.size + 1 ≤ W.heap.size by rw [ho.size]; exact hS); replace hsr := hnew; clear hnew ho) | ((with_reducible refine ld_swr ND _ _ hsr ?_ ?_ ?_); exact rfl; exact rfl) | ((with_reducible refine ld_sn ND _ _ hsr ?_ ?_ ?_); exact rfl; exact rfl))
          go_roundw
          case rel => exact ⟨k + 1, hlt, by go_num, by rw [HNA.out], by rw [HPA.out, HPN.out]; exact hO, hP, hb, hS⟩
          case measure => simp [intOf]; omega
    · obtain rfl : k = n := by omega
      have htl : l.take k = l := by rw [← HN.out, List.take_length]
      rw [htl] at HPL
      have hpok := partsV_ok wb l n0 hw
      rw [HPL.out] at hpok
      have HC : Hid (Calls Tryd.prog 63 #[.slice ov pn oc, .func (.func 64) #[] #[.pointer (some ⟨w.heap.size, 0, none⟩)]] wr fun e w' => e = .returned (.bool (!pl.all (inS p))) ∧ Below wr.heap.size wr w') := hide (con_seg pl (by rw [HPN.out]; omega) (fun s hs => ⟨(hpok s hs).1, (hpok s hs).2.1⟩) (HM.out.bl hb) (HA.out.bl hb) hP (by rw [HPN.out]; exact hO))
      obtain ⟨bo, hbo⟩ : ∃ x, pl.all (inS p) = x := ⟨_, rfl⟩
      rw [hbo] at HC
      have HBO := hide hbo
      have hnlt : ¬ (k : Int) < (k : Int) := by omega
      clear hbo hpok
      cases bo with
      | true =>
        go_wp2_with (first | (go_at_call 63; (with_reducible refine HC.out.mono ?_); rintro e W2 ⟨rfl, hb2⟩))
        go_ret2
        exact ⟨hb.trans (hb2.mono hb.size), .inl ⟨by rw [HPL.out]; exact HBO.out, _, rfl, by rw [HPL.out, HPN.out]; exact own_lower1 (own_bel hO hb2)⟩⟩
      | false =>
        go_wp2_with (first | (go_at_call 63; (with_reducible refine HC.out.mono ?_); rintro e W2 ⟨rfl, hb2⟩))
        go_ret2
        exact ⟨hb.trans (hb2.mono hb.size), .inr ⟨by rw [HPL.out]; exact HBO.out, rfl⟩⟩
end Go.Proofs.YtbggkoahofnnjaaDoor
namespace Go.Proofs.YtbggkoahofnnjaaDoor
open Go.RowKit
set_option linter.unusedVariables false
set_option linter.unusedSimpArgs false

theorem own_back {w V : World} {B e size n g cap : Nat} {xs : List Value} {cur : Array Value} (h : w.ownsRow B e size (.slice (some ⟨g, 0, none⟩) n cap) n xs) (hr : RowAt w g cur e) (hv : RowAt V g cur e) : V.ownsRow B e size (.slice (some ⟨g, 0, none⟩) n cap) n xs :=
  own_at h (fun g' e' => by cases e'; exact Eq.trans hv (Eq.symm hr))
/-- The bytes of a part. -/
def segF (f : Nat → Nat) (s : Sg) : List Nat := (List.range s.n.toNat).map fun j => f (plM s.at' + j)
/-- The bytes of parts, one behind the other. -/
def gathF (f : Nat → Nat) (l : List Sg) : List Nat := l.flatMap (segF f)
theorem segF_len (f : Nat → Nat) (s : Sg) : (segF f s).length = s.n.toNat := by simp [segF]
theorem segF_at {f : Nat → Nat} {s : Sg} {j : Nat} (h : j < s.n.toNat) : (segF f s)[j]? = some (f (plM s.at' + j)) := by simp [segF, h]
theorem gathF_app (f : Nat → Nat) (l m : List Sg) : gathF f (l ++ m) = gathF f l ++ gathF f m := by simp [gathF]
theorem gathF_one (f : Nat → Nat) (s : Sg) : gathF f [s] = segF f s := by simp [gathF]
theorem byteV_append (l m : List Nat) : byteV (l ++ m) = byteV l ++ byteV m := by simp [byteV]
theorem gathF_len {p : Nat} {f : Nat → Nat} (hp : p ≤ 16384) : ∀ (l : List Sg), (∀ s ∈ l, inS p s = true) → (gathF f l).length ≤ l.length * 67108864
  | [], _ => Nat.zero_le _
  | s :: t, h => by
    have ih := gathF_len (f := f) hp t (fun x hx => h x (List.mem_cons_of_mem _ hx))
    have hs := h s (List.mem_cons_self ..)
    have : gathF f (s :: t) = segF f s ++ gathF f t := rfl
    rw [this, List.length_append, segF_len, List.length_cons]
    have := of_decide_eq_true hs
    omega
theorem seg_src {W : World} {g : Nat} {f : Nat → Nat} {s : Sg} {N : Nat} (hN : s.n.toNat = N) (h : HoldsAt W g N 5 (fun j => .int .u8 (f (plM s.at' + j) : Nat))) (j : Nat) (u : Value) (hu : (byteV (segF f s))[j]? = some u) : W.cell? ⟨g, j, none⟩ = some u := by
  have hl : j < N := by
    have := (List.getElem?_eq_some_iff.1 hu).1
    rwa [byteV_len, segF_len, hN] at this
  rw [h.cell hl]
  rw [byteV, List.getElem?_map, segF_at (by rw [hN]; exact hl)] at hu
  exact hu
variable {ops : Array Oper} {rest : List Oper} {dst : Option Tmp} {ty : TypeId} {pos : String} {after : Array Edge} {a : Act} {w : World} {Q : Exit → Act → World → Prop} {x y : Operand} {B : Nat} {v : Value}
theorem info_b : ∃ i, Tryd.prog.info? 5 = some i ∧ i.zero = some (.int .u8 0) ∧ i.size = 1 ∧ i.bytes = 1 := info_parts (P := Tryd.prog) (e := 5) (z := .int .u8 0) (size := 1) (bytes := 1) (by kernel_rfl)
theorem app_b (l m : List Nat) (n N sc : Nat) (hn : l.length = n) (hm : m.length = N) (hown : w.ownsRow B 5 1 v n (byteV l)) (s : Nat) (hs : ∀ (j : Nat) (u : Value), (byteV m)[j]? = some u → w.cell? ⟨s, j, none⟩ = some u) (hl : n + N ≤ 140737488355328) (hB : B ≤ w.heap.size) (hx : a.eval x = v) (hy : a.eval y = .slice (some ⟨s, 0, none⟩) N sc)
    (k : ∀ W v', W.ownsRow B 5 1 v' (n + N) (byteV (l ++ m)) → w.grownBy W v.ownBlock → (v'.ownBlock = v.ownBlock ∨ v'.ownBlock = some w.heap.size) → wpList Tryd.prog ops Q rest (a.put dst v') W) :
    wpList Tryd.prog ops Q (⟨dst, .call { callee := .builtin .append, args := #[x, y], argTypes := #[22, 22] }, 22, pos, after, none⟩ :: rest) a w := by
  obtain ⟨i, h1, h2, h3, h4⟩ := info_b
  refine op_appl 22 5 i _ 1 1 Tryd.underlying22 h1 h2 h3 h4 rfl (by decide) hown ⟨s, 0, none⟩ N sc (byteV m) (by rw [byteV_len, hm]; omega) ?_ (byteV_one _) (by unfold maxLen; omega) (by omega) hB hx hy ?_
  · intro j u hu
    rw [Addr.add_lit, Nat.zero_add]
    exact hs j u hu
  · intro W v' q1 q2 q3
    rw [← byteV_append] at q1
    exact k W v' q1 q2 q3
set_option maxRecDepth 20000 in
set_option maxHeartbeats 4000000 in
theorem gath_ok (l : List Sg) (hl : l.length ≤ 1000000) (hw : ∀ s ∈ l, s.Ok) {w : World} {B b p c Bl : Nat} {v : Value} {f : Nat → Nat} {O : Nat → Prop} (h : RamB w B b p f c O) (hA : AreasAt w) (hG : 0 < B) (hL : w.ownsRow Bl 104 3 v l.length (segL l)) (hi : (partsV false 9223372036854775807 l).all (inS p) = true) : Calls Tryd.prog 40 #[.pointer (some ⟨b, 0, none⟩), v] w fun e w' => ∃ O' v', e = .returned (.tuple #[v', .nilIface]) ∧ RamB w' B b p f c O' ∧ Went B O O' w w' ∧ w'.ownsRow w.heap.size 5 1 v' (gathF f (partsV false 9223372036854775807 l)).length (byteV (gathF f (partsV false 9223372036854775807 l))) ∧ ∀ g, v'.ownBlock = some g → ¬ O' g := by
  have HP : Hid (Calls Tryd.prog 49 #[.pointer (some ⟨b, 0, none⟩), v, .bool false, .int .i64 9223372036854775807] w fun e w' => Below w.heap.size w w' ∧ ∃ v', e = .returned (.tuple #[v', .nilIface]) ∧ w'.ownsRow w.heap.size 104 3 v' (partsV false 9223372036854775807 l).length (segL (partsV false 9223372036854775807 l))) := hide ((parts_any l (by omega) hw false 9223372036854775807 (by decide) (by decide) h hA hL).mono (by
    rintro e w' ⟨hb, ⟨_, a1⟩ | ⟨a2, _⟩⟩
    · exact ⟨hb, a1⟩
    · rw [hi] at a2; cases a2))
  have hok := partsV_ok false l 9223372036854775807 hw
  have hpn := partsV_len false l 9223372036854775807
  generalize partsV false 9223372036854775807 l = q at *
  obtain ⟨av, cap, rfl, _, _⟩ := own_form hL
  obtain ⟨n, hn⟩ : ∃ n, q.length = n := ⟨_, rfl⟩
  have HN := hide hn
  rw [hn] at HP hpn
  have hall : ∀ s ∈ q, inS p s = true := List.all_eq_true.1 hi
  have HQ := hide (fun s hs => And.intro (hok s hs) (hall s hs))
  have hfew := h.few
  have HGL := hide (fun k => gathF_len (f := f) hfew (q.take k) (fun s hs => hall s (List.mem_of_mem_take hs)))
  have hB0 := h.base
  have hGw : 0 < w.heap.size := Nat.lt_of_lt_of_le hG hB0
  have HH := hide h
  have HA0 := hide hA
  clear hL hi hok hall hn h hA
  go_enter Tryd.func40, Tryd.ntmps40
  go_wp2_with (first | (go_at_call 49; (with_reducible refine HP.out.mono ?_); rintro e W ⟨hb, vq, rfl, hq⟩; obtain ⟨qa, qc, rfl, hqc1, hqc2⟩ := own_form hq))
  go_loopw [8, 27] (fun ov iv wr => ∃ (k : Nat) (O1 : Nat → Prop), k ≤ n ∧ iv = .int .i64 (k : Nat) ∧ RamB wr B b p f c O1 ∧ Went B O O1 w wr ∧ AreasAt wr ∧ wr.ownsRow w.heap.size 104 3 (.slice qa n qc) n (segL q) ∧ (∀ g, (Value.slice qa n qc).ownBlock = some g → ¬ O1 g) ∧ wr.ownsRow w.heap.size 5 1 ov (gathF f (q.take k)).length (byteV (gathF f (q.take k))) ∧ (∀ g, ov.ownBlock = some g → ¬ O1 g) ∧ (∀ g, ov.ownBlock = some g → (Value.slice qa n qc).ownBlock ≠ some g)) (fun ov iv _ => n - (intOf iv).toNat)
  case atStart => exact ⟨0, O, Nat.zero_le _, rfl, HH.out.bl hb, Went.of hb hB0, HA0.out.bl hb, hq, (fun g e k => absurd (HH.out.lt g k) (by have := (hq.lt g e).1; omega)), World.ownsRow_nil _ _ _ _, (fun g hg => by cases hg), (fun g hg => by cases hg)⟩
  case round =>
    clear hb hq
    obtain ⟨k, O1, hk, rfl, hM, hW, hA, hq, hqn, hO, hOn, hOq⟩ := hrel
    have hS := hW.size
    have hB : B ≤ wr.heap.size := Nat.le_trans hB0 hS
    obtain ⟨gl, hgl⟩ : ∃ x, (gathF f (q.take k)).length = x := ⟨_, rfl⟩
    have hgb : gl ≤ 1000000 * 67108864 := by
      have := HGL.out k
      rw [hgl, List.length_take] at this
      have h2 : min k q.length ≤ 1000000 := by rw [HN.out]; omega
      exact Nat.le_trans this (Nat.mul_le_mul_right _ h2)
    rw [hgl] at hO
    have HGLn := hide hgl
    obtain ⟨ov, oc, rfl, ho1, ho2⟩ := own_form hO
    clear hgl
    by_cases hlt : k < n
    · obtain ⟨gb, cap', cur, hve, _, _, hgB, hLr, _, htk⟩ := own_row hq (show 0 < n by omega)
      obtain ⟨rfl, rfl⟩ : qa = some ⟨gb, 0, none⟩ ∧ qc = cap' := by injection hve with e1 e2 e3; exact ⟨e1, e3⟩
      have hgl : gb < wr.heap.size := hLr.lt
      obtain ⟨s, hs⟩ : ∃ s, q[k]? = some s := ⟨_, List.getElem?_eq_getElem (by rw [HN.out]; exact hlt)⟩
      have hmid := mid_s htk hs
      obtain ⟨⟨hok, _, hps, _⟩, hin⟩ := HQ.out s (List.mem_of_getElem? hs)
      obtain ⟨N, hN⟩ := Int.eq_ofNat_of_zero_le (show 0 ≤ s.n by omega)
      have hNt : s.n.toNat = N := by omega
      have hN0 : 0 < N := by omega
      have hin2 : plM s.at' + N ≤ 4096 * p := plB_in (by unfold inS at hin; rwa [hNt] at hin) hN0
      have hsl := segF_len f s
      rw [hNt] at hsl
      have htk1 : gathF f (q.take (k + 1)) = gathF f (q.take k) ++ segF f s := by rw [List.take_add_one, hs, gathF_app]; simp [gathF_one]
      have HT1 := hide htk1
      have hN9 : N ≤ 67108864 := by omega
      have HIM : Hid (∀ W, AreasAt W → Calls Tryd.prog 50 #[.int .u32 (s.at' : Nat)] W fun e w' => e = .returned (.int .u32 (plM s.at' : Nat)) ∧ Below W.heap.size W w') := hide (fun W hA => rinmem_any s.at' hok.at' W hA)
      have HRD : Hid (∀ W O1 NX, W.heap.size = NX → RamB W B b p f c O1 → Calls Tryd.prog 55 #[.pointer (some ⟨b, 0, none⟩), .int .u32 (plM s.at' : Nat), .int .i64 (N : Nat)] W fun e w' => e = .returned (.tuple #[.slice (some ⟨NX, 0, none⟩) N N, .nilIface]) ∧ HoldsAt w' NX N 5 (fun j => .int .u8 (f (plM s.at' + j) : Nat)) ∧ ∃ O', RamB w' B b p f c O' ∧ Went B O1 O' W w' ∧ ¬ O' NX) := hide (fun W O1 NX e hM => by subst e; exact read_b hM (plM s.at') (plM_lt hok.at') N hN0 hin2)
      have hlt' : (k : Int) < (n : Int) := by omega
      obtain ⟨ND, hND0⟩ : ∃ x, wr.heap.size = x := ⟨_, rfl⟩
      have hND := hide hND0
      have hd1 : w.heap.size ≤ ND := hND0 ▸ hS
      have hd2 : B ≤ ND := hND0 ▸ hB
      have hd3 : gb < ND := hND0 ▸ hgl
      have hdv : ∀ g, (Value.slice ov gl oc).ownBlock = some g → w.heap.size ≤ g ∧ g < ND := fun g hg => hND0 ▸ hO.lt g hg
      have hdO : ¬ O1 ND := fun e => absurd (hM.lt _ e) (by omega)
      have HSR := hide (fun (W : World) g (h : HoldsAt W g N 5 (fun j => .int .u8 (f (plM s.at' + j) : Nat))) => seg_src hNt h)
      have hqg := hqn gb rfl
      have hOg : ∀ g, (Value.slice ov gl oc).ownBlock = some g → gb ≠ g := fun g e k => hOq g e (by rw [k]; rfl)
      have HQO := hide (fun (V : World) (hr : RowAt V gb cur 104) => own_back hq hLr hr)
      generalize plM s.at' = pa at *
      clear hs htk hve htk1 hok hin hin2 hND0 hps hNt hq hqn hOq
      go_wp2_with (first | ((with_reducible refine ld_sm gb (k * 3) s cur _ hLr hmid ?_ ?_); exact rfl) | ((with_reducible refine al_sp ND ?_ ?_); exact hND.out; intro W hsr hb' hz; have hbc := hND.out ▸ hb'; replace hM := hM.bl hbc; replace hW := hW.bl hbc hB; replace hA := hA.bl hbc; replace hB := Nat.le_trans hB hbc.size; replace hS := Nat.le_trans hS hbc.size; replace hLr := hLr.bl hbc; replace hO := own_bel hO hbc; clear hb' hbc) | ((with_reducible refine st_sp ND _ s hsr ?_ ?_ ?_); exact rfl; exact rfl; intro W hnew ho; replace hz := hide (ho.size.trans hz.out); replace hM := hM.only ho hdO; replace hW := hW.only ho (by omega) (by omega); replace hA := hA.onlyR ho (by omega); replace hLr := hLr.only ho (by omega); replace hO := own_only hO ho (fun e => absurd (hdv _ e).2 (by omega)); replace hS := (show w.heap.size ≤ W.heap.size by rw [ho.size]; exact hS); replace hB := (show B ≤ W.heap.size by rw [ho.size]; exact hB); replace hsr := hnew; clear hnew ho))
      refine wp_region_held_drew (S := (fun V => RowAt V ND s.cells 104)) (by kernel_rfl) ?_ (fun hHeld => ?_)
      · exact hsr.dr
      replace hM := hM.dr
      replace hW := hW.dr
      replace hA := hA.drR
      replace hLr := hLr.dr
      replace hO := own_dr hO
      replace hS : w.heap.size ≤ (World.drew _).heap.size := hS
      replace hB : B ≤ (World.drew _).heap.size := hB
      generalize World.drew _ = V at hHeld hM hW hA hLr hO hS hB ⊢
      clear hsr hz
      refine wpAnyH_take (i := 0) (oi := ?oi1) (v := .pointer (some ⟨b, 0, none⟩)) ?hi1 (by kernel_rfl) (by kernel_rfl) (by kernel_rfl) ?hQ1 ?hy1 (by assumption) ?rest1
      case hi1 => (simp only [List.getElem?_toArray, List.getElem?_cons_zero]; rfl)
      case hQ1 => exact fun _ _ _ h => h
      case hy1 => exact Or.inl ⟨by rfl, by (intro w hSw; (try dsimp only at hSw); go_simp )⟩
      simp only [Act.put, List.setIfInBounds_toArray, List.set_cons_zero, List.set_cons_succ]
      refine wpAnyH_take (i := 1) (oi := ?oi2) (v := .pointer (some ⟨ND, 0, none⟩)) ?hi2 (by kernel_rfl) (by kernel_rfl) (by kernel_rfl) ?hQ2 ?hy2 (by assumption) ?rest2
      case hi2 => (simp only [List.getElem?_toArray, List.getElem?_cons_zero, List.getElem?_cons_succ]; rfl)
      case hQ2 => exact fun _ _ _ h => h
      case hy2 => exact Or.inl ⟨by rfl, by (intro w hSw; (try dsimp only at hSw); go_simp )⟩
      simp only [Act.put, List.setIfInBounds_toArray, List.set_cons_zero, List.set_cons_succ]
      refine wpAnyH_take (i := 2) (oi := ?oi3) (v := .int .u32 (s.at' : Nat)) ?hi3 (by kernel_rfl) (by kernel_rfl) (by kernel_rfl) ?hQ3 ?hy3 (by assumption) ?rest3
      case hi3 => (simp only [List.getElem?_toArray, List.getElem?_cons_zero, List.getElem?_cons_succ]; rfl)
      case hQ3 => exact fun _ _ _ h => h
      case hy3 => exact y_sat ND s _ (fun V hV => hV) rfl
      simp only [Act.put, List.setIfInBounds_toArray, List.set_cons_zero, List.set_cons_succ]
      refine wpAnyH_take (i := 4) (oi := ?oi4) (v := .pointer (some ⟨ND, 1, none⟩)) ?hi4 (by kernel_rfl) (by kernel_rfl) (by kernel_rfl) ?hQ4 ?hy4 (by assumption) ?rest4
      case hi4 => (simp only [List.getElem?_toArray, List.getElem?_cons_zero, List.getElem?_cons_succ]; rfl)
      case hQ4 => exact fun _ _ _ h => h
      case hy4 => exact Or.inl ⟨by rfl, by (intro w hSw; (try dsimp only at hSw); go_simp )⟩
      simp only [Act.put, List.setIfInBounds_toArray, List.set_cons_zero, List.set_cons_succ]
      refine wpAnyH_take (i := 5) (oi := ?oi5) (v := .int .i64 s.n) ?hi5 (by kernel_rfl) (by kernel_rfl) (by kernel_rfl) ?hQ5 ?hy5 (by assumption) ?rest5
      case hi5 => (simp only [List.getElem?_toArray, List.getElem?_cons_zero, List.getElem?_cons_succ]; rfl)
      case hQ5 => exact fun _ _ _ h => h
      case hy5 => exact y_sn ND s _ (fun V hV => hV) rfl
      simp only [Act.put, List.setIfInBounds_toArray, List.set_cons_zero, List.set_cons_succ]
      rw [hN]
      refine wpAnyH_ready (rs := [3]) (by kernel_rfl) (by simp) ?_
      refine AllReadyH.cons (o := ?oi6) ?hi6 (fun K hK => ?_) AllReadyH.nil
      case hi6 => (simp only [List.getElem?_toArray, List.getElem?_cons_zero, List.getElem?_cons_succ]; rfl)
      rw [if_pos (by rfl)]
      go_simp
      (with_reducible refine (HIM.out _ hA).mono ?_)
      rintro e V2 ⟨rfl, hbc⟩
      have hH2 := hide (hHeld.bl hbc)
      replace hM := hM.bl hbc
      replace hW := hW.bl hbc hB
      replace hA := hA.bl hbc
      replace hLr := hLr.bl hbc
      replace hO := own_bel hO hbc
      replace hB := Nat.le_trans hB hbc.size
      replace hS := Nat.le_trans hS hbc.size
      clear hHeld hbc
      go_simp
      refine hK.out _ _ ?_ (fun hHeld => ?_)
      · exact hH2.out
      clear hK K
      clear hH2
      refine wpAnyH_ready (rs := [6]) (by kernel_rfl) (by simp) ?_
      refine AllReadyH.cons (o := ?oi7) ?hi7 (fun K hK => ?_) AllReadyH.nil
      case hi7 => (simp only [List.getElem?_toArray, List.getElem?_cons_zero, List.getElem?_cons_succ]; rfl)
      obtain ⟨NX, hNX⟩ : ∃ x, V2.heap.size = x := ⟨_, rfl⟩
      rw [if_pos (by rfl)]
      go_simp
      (with_reducible refine (HRD.out _ _ NX hNX hM).mono ?_)
      rintro e V3 ⟨rfl, hHo, O3, hM3, hW3, hn3⟩
      have hH2 := hide (hW3.row hHeld hdO)
      have hqg3 := hW3.no hLr.lt hqg
      replace hLr := hW3.row hLr hqg
      have hx3 : NX < V3.heap.size := hHo.lt
      have hxv : ∀ g, (Value.slice ov gl oc).ownBlock = some g → g < NX := fun g hg => hNX ▸ (hO.lt g hg).2
      have hOn3 := fun g hg => hW3.no (hO.lt g hg).2 (hOn g hg)
      replace hO := own_went hO hW3 hOn
      replace hA := hA.wentR hG hW3
      replace hS := Nat.le_trans hS hW3.size
      replace hW := hW.trans hW3
      replace hB := Nat.le_trans hB hW3.size
      clear hM hOn hqg hW3 hHeld hNX
      go_simp
      refine hK.out _ _ ?_ (fun hHeld => ?_)
      · exact hH2.out
      clear hK K
      clear hH2
      refine wpAnyH_take (i := 7) (oi := ?oi8) (v := .tuple #[.slice (some ⟨NX, 0, none⟩) N N, .nilIface]) ?hi8 (by kernel_rfl) (by kernel_rfl) (by kernel_rfl) ?hQ8 ?hy8 (by assumption) ?rest8
      case hi8 => (simp only [List.getElem?_toArray, List.getElem?_cons_zero, List.getElem?_cons_succ]; rfl)
      case hQ8 => exact fun _ _ _ h => h
      case hy8 => exact Or.inl ⟨by rfl, by (intro w hSw; (try dsimp only at hSw); go_simp )⟩
      simp only [Act.put, List.setIfInBounds_toArray, List.set_cons_zero, List.set_cons_succ]
      refine wpAnyH_take (i := 8) (oi := ?oi9) (v := .slice (some ⟨NX, 0, none⟩) N N) ?hi9 (by kernel_rfl) (by kernel_rfl) (by kernel_rfl) ?hQ9 ?hy9 (by assumption) ?rest9
      case hi9 => (simp only [List.getElem?_toArray, List.getElem?_cons_zero, List.getElem?_cons_succ]; rfl)
      case hQ9 => exact fun _ _ _ h => h
      case hy9 => exact Or.inl ⟨by rfl, by (intro w hSw; (try dsimp only at hSw); go_simp )⟩
      simp only [Act.put, List.setIfInBounds_toArray, List.set_cons_zero, List.set_cons_succ]
      refine wpAnyH_take (i := 9) (oi := ?oi10) (v := .nilIface) ?hi10 (by kernel_rfl) (by kernel_rfl) (by kernel_rfl) ?hQ10 ?hy10 (by assumption) ?rest10
      case hi10 => (simp only [List.getElem?_toArray, List.getElem?_cons_zero, List.getElem?_cons_succ]; rfl)
      case hQ10 => exact fun _ _ _ h => h
      case hy10 => exact Or.inl ⟨by rfl, by (intro w hSw; (try dsimp only at hSw); go_simp )⟩
      simp only [Act.put, List.setIfInBounds_toArray, List.set_cons_zero, List.set_cons_succ]
      refine wpAnyH_take (i := 10) (oi := ?oi11) (v := .slice (some ⟨NX, 0, none⟩) N N) ?hi11 (by kernel_rfl) (by kernel_rfl) (by kernel_rfl) ?hQ11 ?hy11 (by assumption) ?rest11
      case hi11 => (simp only [List.getElem?_toArray, List.getElem?_cons_zero, List.getElem?_cons_succ]; rfl)
      case hQ11 => exact fun _ _ _ h => h
      case hy11 => exact Or.inl ⟨by rfl, by (intro w hSw; (try dsimp only at hSw); go_simp )⟩
      simp only [Act.put, List.setIfInBounds_toArray, List.set_cons_zero, List.set_cons_succ]
      refine wpAnyH_take (i := 11) (oi := ?oi12) (v := .nilIface) ?hi12 (by kernel_rfl) (by kernel_rfl) (by kernel_rfl) ?hQ12 ?hy12 (by assumption) ?rest12
      case hi12 => (simp only [List.getElem?_toArray, List.getElem?_cons_zero, List.getElem?_cons_succ]; rfl)
      case hQ12 => exact fun _ _ _ h => h
      case hy12 => exact Or.inl ⟨by rfl, by (intro w hSw; (try dsimp only at hSw); go_simp )⟩
      simp only [Act.put, List.setIfInBounds_toArray, List.set_cons_zero, List.set_cons_succ]
      refine wpAnyH_done (by kernel_rfl) ?_ _
      clear hHeld
      go_wp2_with (first | ((with_reducible refine app_b (gathF f (q.take k)) (segF f s) gl N N HGLn.out hsl hO NX (HSR.out _ _ hHo) (by omega) hS ?_ ?_ ?_); exact rfl; exact rfl; intro W v' hL2 hg hbk; have hOn4 := grow_no hM3 hOn3 hbk; have hbk2 : ∀ g, v'.ownBlock = some g → gb ≠ g := (fun g e => by rcases hbk with q1 | q1; exact hOg g (q1 ▸ e); rw [q1] at e; cases e; have := hLr.lt; omega); replace hLr := grow_row hLr hg (fun e => hOg _ e rfl); replace hA := AreasAt.growR hA hg (fun g e => by have := (hdv g e).1; omega); replace hW := grow_went hW hg (fun g e => (hdv g e).1) hB0; have hM4 := grow_ram hM3 hg hOn3; replace hS := Nat.le_trans hS hg.size; clear hM3 hOn3 hHo hg hbk))
      go_roundw
      case rel =>
        refine ⟨k + 1, _, hlt, by go_num, hM4, hW, hA, HQO.out _ hLr, (fun g e => by cases e; exact hqg3), by rw [HT1.out, List.length_append, HGLn.out, hsl]; exact hL2, hOn4, (fun g e k => by cases k; exact hbk2 _ e rfl)⟩
      case measure => simp [intOf]; omega
    · obtain rfl : k = n := by omega
      go_wp2
      go_ret2
      have ht : q.take k = q := by rw [← HN.out, List.take_length]
      rw [ht] at HGLn
      refine ⟨O1, _, rfl, hM, hW, ?_, hOn⟩
      rw [HGLn.out]
      rw [ht] at hO
      exact hO
end Go.Proofs.YtbggkoahofnnjaaDoor
namespace Go.Proofs.YtbggkoahofnnjaaDoor
open Go.RowKit
set_option linter.unusedVariables false

def txtR (l : List Nat) : ByteArray := ⟨(l.map fun n => UInt8.ofNat n).toArray⟩
theorem getD_range (l : List Nat) : (List.range l.length).map (fun j => UInt8.ofNat ((l[j]?).getD 0)) = l.map fun n => UInt8.ofNat n := by
  apply List.ext_getElem?
  intro j
  rw [List.getElem?_map, List.getElem?_map]
  by_cases hj : j < l.length
  · rw [List.getElem?_range hj, List.getElem?_eq_getElem hj]
    show some (UInt8.ofNat ((l[j]?).getD 0)) = _
    rw [List.getElem?_eq_getElem hj]; rfl
  · rw [List.getElem?_eq_none (by simpa using hj), List.getElem?_eq_none (by omega)]; rfl
end Go.Proofs.YtbggkoahofnnjaaDoor
