/-
  What ring's Scatter does to any parts, in any memory.
-/
import Derived.Test.YtbggkoahofnnjaaDoorJK19
namespace Go.Proofs.YtbggkoahofnnjaaDoor
open Go.RowKit
set_option linter.unusedVariables false
set_option linter.unusedSimpArgs false

/-- A sum of bytes, which stays at the greatest number. -/
def moreN (s n : Int) : Int := if 0 ≤ n then (if n ≤ 9223372036854775807 - s then s + n else 9223372036854775807) else s
theorem moreN_in {s n : Int} (h0 : 0 ≤ s) (h1 : s ≤ 9223372036854775807) : 0 ≤ moreN s n ∧ moreN s n ≤ 9223372036854775807 := by unfold moreN; split <;> (try split) <;> omega
def roomV (wr : Bool) : Int → List Sg → Int
  | a, [] => a
  | a, s :: t => roomV wr (if s.wr = wr then moreN a s.n else a) t
theorem roomV_app (wr : Bool) : ∀ (l m : List Sg) (a : Int), roomV wr a (l ++ m) = roomV wr (roomV wr a l) m
  | [], m, a => rfl
  | s :: t, m, a => roomV_app wr t m _
theorem roomV_in (wr : Bool) : ∀ (l : List Sg) (a : Int), 0 ≤ a → a ≤ 9223372036854775807 → 0 ≤ roomV wr a l ∧ roomV wr a l ≤ 9223372036854775807
  | [], a, h0, h1 => ⟨h0, h1⟩
  | s :: t, a, h0, h1 => by
    have := moreN_in (n := s.n) h0 h1
    exact roomV_in wr t _ (by split <;> omega) (by split <;> omega)
set_option maxHeartbeats 1000000 in
theorem more_any (s n : Int) (h0 : 0 ≤ s) (h1 : s ≤ 9223372036854775807) (n0 : -9223372036854775808 ≤ n) (n1 : n ≤ 9223372036854775807) (w : World) : Calls Tryd.prog 31 #[.int .i64 s, .int .i64 n] w fun e w' => e = .returned (.int .i64 (moreN s n)) ∧ w' = w := by
  unfold moreN
  by_cases c0 : 0 ≤ n
  · by_cases c1 : n ≤ 9223372036854775807 - s
    · rw [if_pos c0, if_pos c1]
      have e1 : max n 0 = n := by omega
      have e2 : min n (9223372036854775807 - s) = n := by omega
      go_enter Tryd.func31, Tryd.ntmps31
      go_wp2
      go_ret
      refine ⟨?_, rfl⟩
      show Ending.returned (.int .i64 _) = _
      congr 2
    · rw [if_pos c0, if_neg c1]
      have e1 : max n 0 = n := by omega
      have e2 : min n (9223372036854775807 - s) = 9223372036854775807 - s := by omega
      go_enter Tryd.func31, Tryd.ntmps31
      go_wp2
      go_ret
      refine ⟨?_, rfl⟩
      show Ending.returned (.int .i64 _) = _
      congr 2
      omega
  · rw [if_neg c0]
    have e1 : max n 0 = 0 := by omega
    have e2 : min (0 : Int) (9223372036854775807 - s) = 0 := by omega
    go_enter Tryd.func31, Tryd.ntmps31
    go_wp2
    go_ret
    refine ⟨?_, rfl⟩
    show Ending.returned (.int .i64 _) = _
    congr 2
set_option maxHeartbeats 2000000 in
theorem room_any (l : List Sg) (hl : l.length ≤ 1000000) (hw : ∀ s ∈ l, s.Ok) {w : World} {Bl : Nat} {v : Value} (hL : w.ownsRow Bl 104 3 v l.length (segL l)) :
    Calls Tryd.prog 19 #[v] w fun e w' => e = .returned (.tuple #[.int .i64 (roomV false 0 l), .int .i64 (roomV true 0 l)]) ∧ Below w.heap.size w w' := by
  have HL := hide hL
  obtain ⟨n, hn⟩ : ∃ n, l.length = n := ⟨_, rfl⟩
  have HN := hide hn
  rw [hn] at hl
  obtain ⟨av, cap, rfl, hc1, hc2⟩ := own_form hL
  rw [hn] at hc1 ⊢
  clear hL hn
  go_enter Tryd.func19, Tryd.ntmps19
  go_wp2
  go_loopw [4, 5, 10] (fun rv wv iv wr => ∃ (k : Nat), k ≤ n ∧ iv = .int .i64 (k : Nat) ∧ rv = .int .i64 (roomV false 0 (l.take k)) ∧ wv = .int .i64 (roomV true 0 (l.take k)) ∧ Below w.heap.size w wr) (fun rv wv iv _ => n - (intOf iv).toNat)
  case atStart => exact ⟨0, Nat.zero_le _, rfl, rfl, rfl, Below.refl _ _⟩
  case round =>
    obtain ⟨k, hk, rfl, rfl, rfl, hb⟩ := hrel
    have hb1 := roomV_in false (l.take k) 0 (by decide) (by decide)
    have hb2 := roomV_in true (l.take k) 0 (by decide) (by decide)
    obtain ⟨ra, hra⟩ : ∃ x, roomV false 0 (l.take k) = x := ⟨_, rfl⟩
    obtain ⟨wa, hwa⟩ : ∃ x, roomV true 0 (l.take k) = x := ⟨_, rfl⟩
    rw [hra] at hb1 ⊢
    rw [hwa] at hb2 ⊢
    have HRA := hide hra
    have HWA := hide hwa
    clear hra hwa
    by_cases hlt : k < n
    · obtain ⟨gb, cap', cur, hve, _, _, _, hLr0, _, htk⟩ := own_row (own_bel HL.out hb) (show 0 < l.length by rw [HN.out]; omega)
      obtain ⟨rfl, rfl⟩ : av = some ⟨gb, 0, none⟩ ∧ cap = cap' := by injection hve with e1 e2 e3; exact ⟨e1, e3⟩
      have hgl : gb < w.heap.size := (HL.out.lt gb rfl).2
      have hLr := hLr0
      obtain ⟨s, hs⟩ : ∃ s, l[k]? = some s := ⟨_, List.getElem?_eq_getElem (by rw [HN.out]; exact hlt)⟩
      have hmid := mid_s htk hs
      have hok := hw s (List.mem_of_getElem? hs)
      have ht1 : l.take (k + 1) = l.take k ++ [s] := by rw [List.take_add_one, hs]; rfl
      have hr1 : roomV false 0 (l.take (k + 1)) = if s.wr = false then moreN ra s.n else ra := by rw [ht1, roomV_app, HRA.out]; rfl
      have hw1 : roomV true 0 (l.take (k + 1)) = if s.wr = true then moreN wa s.n else wa := by rw [ht1, roomV_app, HWA.out]; rfl
      have HR1 := hide hr1
      have HW1 := hide hw1
      have HM1 : Hid (∀ W, Calls Tryd.prog 31 #[.int .i64 ra, .int .i64 s.n] W fun e w' => e = .returned (.int .i64 (moreN ra s.n)) ∧ w' = W) := hide (fun W => more_any ra s.n hb1.1 hb1.2 hok.n0 hok.n1 W)
      have HM2 : Hid (∀ W, Calls Tryd.prog 31 #[.int .i64 wa, .int .i64 s.n] W fun e w' => e = .returned (.int .i64 (moreN wa s.n)) ∧ w' = W) := hide (fun W => more_any wa s.n hb2.1 hb2.2 hok.n0 hok.n1 W)
      have hlt' : (k : Int) < (n : Int) := by omega
      obtain ⟨ND, hND0⟩ : ∃ x, wr.heap.size = x := ⟨_, rfl⟩
      have hND := hide hND0
      have hd1 : w.heap.size ≤ ND := hND0 ▸ hb.size
      clear hs htk hve ht1 hr1 hw1 hok hND0
      obtain ⟨sw, hsw⟩ : ∃ x, s.wr = x := ⟨_, rfl⟩
      rw [hsw] at HR1 HW1
      cases sw with
      | true =>
        rw [if_neg (by decide)] at HR1
        rw [if_pos rfl] at HW1
        go_wp2_with (first | ((with_reducible refine ld_sm gb (k * 3) s cur _ hLr hmid ?_ ?_); exact rfl) | ((with_reducible refine al_sp ND ?_ ?_); exact hND.out; intro W hsr hb' hz; have hbc := hND.out ▸ hb'; replace hb := hb.trans (hb'.mono (by omega)); replace hLr := hLr.bl hbc; clear hb' hbc) | ((with_reducible refine st_sp ND _ s hsr ?_ ?_ ?_); exact rfl; exact rfl; intro W hnew ho; replace hLr := hLr.only ho (by omega); replace hb := ho.bel _ _ (by omega) hb; replace hsr := hnew; clear hnew ho) | ((with_reducible refine ld_swr ND _ _ hsr ?_ ?_ ?_); exact rfl; exact rfl; rw [hsw]) | ((with_reducible refine ld_sn ND _ _ hsr ?_ ?_ ?_); exact rfl; exact rfl) | (go_at_call 31; (with_reducible refine (HM2.out _).mono ?_); rintro e W2 ⟨rfl, rfl⟩))
        go_roundw
        case rel => exact ⟨k + 1, hlt, by go_num, by rw [HR1.out], by rw [HW1.out], hb⟩
        case measure => simp [intOf]; omega
      | false =>
        rw [if_pos rfl] at HR1
        rw [if_neg (by decide)] at HW1
        go_wp2_with (first | ((with_reducible refine ld_sm gb (k * 3) s cur _ hLr hmid ?_ ?_); exact rfl) | ((with_reducible refine al_sp ND ?_ ?_); exact hND.out; intro W hsr hb' hz; have hbc := hND.out ▸ hb'; replace hb := hb.trans (hb'.mono (by omega)); replace hLr := hLr.bl hbc; clear hb' hbc) | ((with_reducible refine st_sp ND _ s hsr ?_ ?_ ?_); exact rfl; exact rfl; intro W hnew ho; replace hLr := hLr.only ho (by omega); replace hb := ho.bel _ _ (by omega) hb; replace hsr := hnew; clear hnew ho) | ((with_reducible refine ld_swr ND _ _ hsr ?_ ?_ ?_); exact rfl; exact rfl; rw [hsw]) | ((with_reducible refine ld_sn ND _ _ hsr ?_ ?_ ?_); exact rfl; exact rfl) | (go_at_call 31; (with_reducible refine (HM1.out _).mono ?_); rintro e W2 ⟨rfl, rfl⟩))
        go_roundw
        case rel => exact ⟨k + 1, hlt, by go_num, by rw [HR1.out], by rw [HW1.out], hb⟩
        case measure => simp [intOf]; omega
    · obtain rfl : k = n := by omega
      have ht : l.take k = l := by rw [← HN.out, List.take_length]
      rw [ht] at HRA HWA
      go_wp2
      go_ret2
      exact ⟨by rw [HRA.out, HWA.out]; rfl, hb⟩
end Go.Proofs.YtbggkoahofnnjaaDoor
namespace Go.Proofs.YtbggkoahofnnjaaDoor
open Go.RowKit
set_option linter.unusedVariables false
set_option linter.unusedSimpArgs false

theorem own_lower2 {W : World} {B B' e sz n : Nat} {v : Value} {xs : List Value} (h : W.ownsRow B e sz v n xs) (hB : B' ≤ B) : W.ownsRow B' e sz v n xs := by
  refine ⟨h.1, h.2.imp id ?_⟩
  rintro ⟨g, cap, cur, rfl, hb, hgg, rest⟩
  exact ⟨g, cap, cur, rfl, by omega, hgg, rest⟩
/-- Bytes that came in. -/
structure BytesAt (w : World) (B : Nat) (la : Option Addr) (l : List Nat) : Prop where
  lies : 0 < l.length → ∃ b o, la = some ⟨b, o, none⟩ ∧ b < B ∧ ∀ j (h : j < l.length), w.cell? ⟨b, o + j, none⟩ = some (.int .u8 (l[j] : Nat))
  small : ∀ y ∈ l, y < 256
/-- Bytes in a block that is not the memory's. -/
structure BytesO (w : World) (O : Nat → Prop) (la : Option Addr) (l : List Nat) : Prop where
  lies : 0 < l.length → ∃ b o, la = some ⟨b, o, none⟩ ∧ b < w.heap.size ∧ ¬ O b ∧ ∀ j (h : j < l.length), w.cell? ⟨b, o + j, none⟩ = some (.int .u8 (l[j] : Nat))
  small : ∀ y ∈ l, y < 256
theorem BytesAt.off {w : World} {B b p c : Nat} {f : Nat → Nat} {O : Nat → Prop} {la : Option Addr} {l : List Nat} (h : BytesAt w B la l) (hM : RamB w B b p f c O) : BytesO w O la l :=
  ⟨fun h0 => by
    obtain ⟨x, o, e, h1, h2⟩ := h.lies h0
    exact ⟨x, o, e, Nat.lt_of_lt_of_le h1 hM.base, fun k => absurd (hM.low _ k) (by omega), h2⟩, h.small⟩
/-- What bytes make of memory, part by part. -/
def scatF (f : Nat → Nat) : List Sg → List Nat → (Nat → Nat)
  | [], _ => f
  | s :: t, l => scatF (wroteF f (plM s.at') (l.take s.n.toNat)) t (l.drop s.n.toNat)
def sumN : List Sg → Nat
  | [] => 0
  | s :: t => s.n.toNat + sumN t
theorem sumN_app : ∀ (l m : List Sg), sumN (l ++ m) = sumN l + sumN m
  | [], m => by simp [sumN]
  | s :: t, m => by simp only [List.cons_append, sumN, sumN_app t m]; omega
theorem scatF_app : ∀ (l m : List Sg) (f : Nat → Nat) (b : List Nat), scatF f (l ++ m) b = scatF (scatF f l b) m (b.drop (sumN l))
  | [], m, f, b => by simp [scatF, sumN]
  | s :: t, m, f, b => by
    simp only [List.cons_append, scatF, sumN]
    rw [scatF_app t m, List.drop_drop]
theorem parts_sum (wr : Bool) : ∀ (l : List Sg) (n : Int), 0 ≤ n → (sumN (partsV wr n l) : Int) ≤ n
  | [], n, h => by simp [partsV, sumN]; exact h
  | s :: t, n, h => by
    simp only [partsV]
    split
    · rename_i hx
      have := parts_sum wr t (n - if s.n ≤ n then s.n else n) (by split <;> omega)
      simp only [sumN]
      split at this <;> rename_i hq <;> simp only [hq, if_true, if_false] <;> omega
    · exact parts_sum wr t n h
set_option maxHeartbeats 1000000 in
theorem scato_long (l : List Sg) (hl : l.length ≤ 1000) (hw : ∀ s ∈ l, s.Ok) (bl : List Nat) (bcap : Nat) (ba : Option Addr) {w : World} {B b p c Bl : Nat} {v : Value} {f : Nat → Nat} {O : Nat → Prop} (h : RamB w B b p f c O) (hA : AreasAt w) (hG : 0 < B) (hL : w.ownsRow Bl 104 3 v l.length (segL l)) (hbl : BytesO w O ba bl) (hbc : bl.length ≤ bcap) (hbm : bcap ≤ 9223372036854775807) (hi : roomV true 0 l < (bl.length : Int)) : Calls Tryd.prog 32 #[.pointer (some ⟨b, 0, none⟩), v, .slice ba bl.length bcap] w fun e w' => e = .returned (.iface 59 (.int .i64 2)) ∧ Below w.heap.size w w' := by
  have HR : Hid (Calls Tryd.prog 19 #[v] w fun e w' => e = .returned (.tuple #[.int .i64 (roomV false 0 l), .int .i64 (roomV true 0 l)]) ∧ Below w.heap.size w w') := hide (room_any l (by omega) hw hL)
  obtain ⟨av, cap, rfl, _, _⟩ := own_form hL
  generalize roomV true 0 l = rw' at *
  generalize roomV false 0 l = rr at *
  generalize l.length = n at *
  generalize bl.length = m at *
  clear h hA hL hbl
  go_enter Tryd.func32, Tryd.ntmps32
  go_wp2_with (first | (go_at_call 19; (with_reducible refine HR.out.mono ?_); rintro e W ⟨rfl, hb⟩))
  go_ret
  exact ⟨rfl, hb⟩
set_option maxRecDepth 20000 in
set_option maxHeartbeats 4000000 in
theorem scato_ok (l : List Sg) (hl : l.length ≤ 1000) (hw : ∀ s ∈ l, s.Ok) (bl : List Nat) (bcap : Nat) (ba : Option Addr) {w : World} {B b p c Bl : Nat} {v : Value} {f : Nat → Nat} {O : Nat → Prop} (h : RamB w B b p f c O) (hA : AreasAt w) (hG : 0 < B) (hL : w.ownsRow Bl 104 3 v l.length (segL l)) (hbl : BytesO w O ba bl) (hbc : bl.length ≤ bcap) (hbm : bcap ≤ 9223372036854775807) (hi : (bl.length : Int) ≤ roomV true 0 l) (hin : (partsV true bl.length l).all (inS p) = true) (hc9 : c ≤ 900000000) : Calls Tryd.prog 32 #[.pointer (some ⟨b, 0, none⟩), v, .slice ba bl.length bcap] w fun e w' => ∃ O', e = .returned .nilIface ∧ RamB w' B b p (scatF f (partsV true bl.length l) bl) (c + (partsV true bl.length l).length) O' ∧ Went B O O' w w' := by
  have HR : Hid (Calls Tryd.prog 19 #[v] w fun e w' => e = .returned (.tuple #[.int .i64 (roomV false 0 l), .int .i64 (roomV true 0 l)]) ∧ Below w.heap.size w w') := hide (room_any l (by omega) hw hL)
  have HP : Hid (∀ W, Below w.heap.size w W → Calls Tryd.prog 49 #[.pointer (some ⟨b, 0, none⟩), v, .bool true, .int .i64 (bl.length : Nat)] W fun e w' => Below W.heap.size W w' ∧ ∃ v', e = .returned (.tuple #[v', .nilIface]) ∧ w'.ownsRow w.heap.size 104 3 v' (partsV true bl.length l).length (segL (partsV true bl.length l))) := hide (fun W hb => (parts_any l (by omega) hw true (bl.length : Int) (by omega) (by omega) (h.bl hb) (hA.bl hb) (own_bel hL hb)).mono (by
    rintro e w' ⟨hb2, ⟨_, v', a1, a2⟩ | ⟨a2, _⟩⟩
    · exact ⟨hb2, v', a1, own_lower2 a2 hb.size⟩
    · rw [hin] at a2; cases a2))
  have hok := partsV_ok true l bl.length hw
  have hpn := partsV_len true l bl.length
  have hsum := parts_sum true l bl.length (by omega)
  generalize partsV true bl.length l = q at *
  obtain ⟨av, cap, rfl, _, _⟩ := own_form hL
  obtain ⟨n, hn⟩ : ∃ n, q.length = n := ⟨_, rfl⟩
  have HN := hide hn
  obtain ⟨M, hM0⟩ : ∃ n, bl.length = n := ⟨_, rfl⟩
  have HM0 := hide hM0
  rw [hn] at HP hpn ⊢
  rw [hM0] at HP hsum hbc hi ⊢
  have hall : ∀ s ∈ q, inS p s = true := List.all_eq_true.1 hin
  have HQ := hide (fun s hs => And.intro (hok s hs) (hall s hs))
  have HSM := hide hsum
  have HBL := hide hbl
  have hfew := h.few
  have hB0 := h.base
  have hGw : 0 < w.heap.size := Nat.lt_of_lt_of_le hG hB0
  have HH := hide h
  have HA0 := hide hA
  have hlong : ¬ roomV true 0 l < (M : Int) := by omega
  generalize roomV true 0 l = rw' at *
  generalize roomV false 0 l = rr at *
  clear hL hin hok hall hn h hA hbl hM0 hsum hi
  go_enter Tryd.func32, Tryd.ntmps32
  go_wp2_with (first | (go_at_call 19; (with_reducible refine HR.out.mono ?_); rintro e W ⟨rfl, hb⟩) | (go_at_call 49; (with_reducible refine (HP.out _ hb).mono ?_); rintro e W2 ⟨hb2, vq, rfl, hq⟩; obtain ⟨qa, qc, rfl, hqc1, hqc2⟩ := own_form hq; replace hb := hb.trans (hb2.mono hb.size); clear hb2))
  go_loopw [2, 39] (fun bv iv wr => ∃ (k : Nat) (O1 : Nat → Prop) (d : Nat) (oa : Option Addr), k ≤ n ∧ iv = .int .i64 (k : Nat) ∧ d = sumN (q.take k) ∧ d ≤ M ∧ bv = .slice oa (M - d) (bcap - d) ∧ (d < M → ∃ sb so, oa = some ⟨sb, so + d, none⟩ ∧ ba = some ⟨sb, so, none⟩) ∧ RamB wr B b p (scatF f (q.take k) bl) (c + k) O1 ∧ Went B O O1 w wr ∧ AreasAt wr ∧ wr.ownsRow w.heap.size 104 3 (.slice qa n qc) n (segL q) ∧ (∀ g, (Value.slice qa n qc).ownBlock = some g → ¬ O1 g)) (fun bv iv _ => n - (intOf iv).toNat)
  case atStart => exact ⟨0, O, 0, ba, Nat.zero_le _, rfl, rfl, Nat.zero_le _, rfl, (fun hm => by obtain ⟨sb, so, e, _⟩ := HBL.out.lies (by rw [HM0.out]; omega); exact ⟨sb, so, e, e⟩), HH.out.bl hb, Went.of hb hB0, HA0.out.bl hb, hq, (fun g e k => absurd (HH.out.lt g k) (by have := (hq.lt g e).1; omega))⟩
  case round =>
    clear hb hq
    obtain ⟨k, O1, d, oa, hk, rfl, hd, hdM, rfl, hoa, hM, hW, hA, hq, hqn⟩ := hrel
    have hS := hW.size
    have hB : B ≤ wr.heap.size := Nat.le_trans hB0 hS
    have HD := hide hd
    by_cases hlt : k < n
    · obtain ⟨gb, cap', cur, hve, _, _, hgB, hLr, _, htk⟩ := own_row hq (show 0 < n by omega)
      obtain ⟨rfl, rfl⟩ : qa = some ⟨gb, 0, none⟩ ∧ qc = cap' := by injection hve with e1 e2 e3; exact ⟨e1, e3⟩
      have hgl : gb < wr.heap.size := hLr.lt
      obtain ⟨s, hs⟩ : ∃ s, q[k]? = some s := ⟨_, List.getElem?_eq_getElem (by rw [HN.out]; exact hlt)⟩
      have hmid := mid_s htk hs
      obtain ⟨⟨hok, _, hps, _⟩, hin⟩ := HQ.out s (List.mem_of_getElem? hs)
      obtain ⟨N, hN⟩ := Int.eq_ofNat_of_zero_le (show 0 ≤ s.n by omega)
      have hNt : s.n.toNat = N := by omega
      have hN0 : 0 < N := by omega
      have hin2 : plM s.at' + N ≤ 4096 * p := plB_in (by unfold inS at hin; rwa [hNt] at hin) hN0
      have ht1 : q.take (k + 1) = q.take k ++ [s] := by rw [List.take_add_one, hs]; rfl
      have hsum1 : sumN (q.take (k + 1)) = d + N := by rw [ht1, sumN_app, ← hd]; simp [sumN, hNt]
      have hsle : sumN (q.take (k + 1)) ≤ sumN q := by
        conv => rhs; rw [← List.take_append_drop (k + 1) q, sumN_app]
        omega
      have hdN : d + N ≤ M := by have := HSM.out; omega
      obtain ⟨sb, so, rfl, hba⟩ := hoa (by omega)
      obtain ⟨sb', so', e', hsb, hsn, hcell⟩ := HBL.out.lies (by rw [HM0.out]; omega)
      obtain ⟨rfl, rfl⟩ : sb = sb' ∧ so = so' := by rw [hba] at e'; injection e' with e'; injection e' with e1 e2; exact ⟨e1, e2⟩
      have hscat : scatF f (q.take (k + 1)) bl = wroteF (scatF f (q.take k) bl) (plM s.at') ((bl.drop d).take N) := by rw [ht1, scatF_app, ← hd]; simp [scatF, hNt]
      have HSC := hide hscat
      have HS1 := hide hsum1
      have hlen : ((bl.drop d).take N).length = N := by rw [List.length_take, List.length_drop, HM0.out]; omega
      have hsrc : ∀ W O1, Went B O O1 w W → ∀ j v, (byteV ((bl.drop d).take N))[j]? = some v → W.cell? ⟨sb, so + d + j, none⟩ = some v := fun W O1 hb j v hj => by
        have hjN : j < N := by have := (List.getElem?_eq_some_iff.1 hj).1; rwa [byteV_len, hlen] at this
        have hjl : d + j < bl.length := by rw [HM0.out]; omega
        rw [cell_of_heap (hb.other sb hsb hsn), show so + d + j = so + (d + j) by omega, hcell (d + j) hjl]
        rw [byteV, List.getElem?_map, List.getElem?_take, if_pos hjN, List.getElem?_drop, List.getElem?_eq_getElem hjl] at hj
        exact hj
      have hsmall : ∀ y, y ∈ (bl.drop d).take N → y < 256 := fun y hy => HBL.out.small y (List.mem_of_mem_drop (List.mem_of_mem_take hy))
      have HIM : Hid (∀ W, AreasAt W → Calls Tryd.prog 50 #[.int .u32 (s.at' : Nat)] W fun e w' => e = .returned (.int .u32 (plM s.at' : Nat)) ∧ Below W.heap.size W w') := hide (fun W hA => rinmem_any s.at' hok.at' W hA)
      have HWR : Hid (∀ W O1, RamB W B b p (scatF f (q.take k) bl) (c + k) O1 → Went B O O1 w W → Calls Tryd.prog 23 #[.pointer (some ⟨b, 0, none⟩), .int .u32 (plM s.at' : Nat), .slice (some ⟨sb, so + d, none⟩) N (bcap - d)] W fun e w' => e = .returned .nilIface ∧ ∃ O', RamB w' B b p (scatF f (q.take (k + 1)) bl) (c + k + 1) O' ∧ Went B O1 O' W w') := hide (fun W O1 hM hW => by
        rw [HSC.out]
        exact write_b hM (plM s.at') (plM_lt hok.at') _ hsmall N hlen hN0 hin2 sb (so + d) (bcap - d) (by omega) (hsrc W O1 hW) (Nat.lt_of_lt_of_le hsb hW.size) (hW.no hsb hsn) (by omega))
      have hlt' : (k : Int) < (n : Int) := by omega
      obtain ⟨ND, hND0⟩ : ∃ x, wr.heap.size = x := ⟨_, rfl⟩
      have hND := hide hND0
      have hd1 : w.heap.size ≤ ND := hND0 ▸ hS
      have hd2 : B ≤ ND := hND0 ▸ hB
      have hd3 : gb < ND := hND0 ▸ hgl
      have hdO : ¬ O1 ND := fun e => absurd (hM.lt _ e) (by omega)
      have hqg := hqn gb rfl
      have HQO := hide (fun (V : World) (hr : RowAt V gb cur 104) => own_back hq hLr hr)
      obtain ⟨m', hm'⟩ : ∃ x, M - d = x := ⟨_, rfl⟩
      obtain ⟨c', hc'⟩ : ∃ x, bcap - d = x := ⟨_, rfl⟩
      rw [hc'] at HWR ⊢
      rw [hm']
      have b1 : N ≤ m' := by omega
      have b2 : m' ≤ c' := by omega
      have b3 : c' ≤ 9223372036854775807 := by omega
      have e1 : M - (d + N) = m' - N := by omega
      have e2 : bcap - (d + N) = c' - N := by omega
      have HE1 := hide e1
      have HE2 := hide e2
      have b1' : (N : Int) ≤ (m' : Int) := by omega
      have b2' : (N : Int) ≤ (c' : Int) := by omega
      have b3' : (m' : Int) ≤ (c' : Int) := by omega
      have HHd := hide hdN
      have HBA := hide hba
      obtain ⟨s1, hs1⟩ : ∃ x, so + d = x := ⟨_, rfl⟩
      rw [hs1] at HWR ⊢
      have HS9 := hide hs1
      generalize plM s.at' = pa at *
      obtain ⟨f2, hf2⟩ : ∃ x, scatF f (q.take (k + 1)) bl = x := ⟨_, rfl⟩
      rw [hf2] at HWR
      have HF2 := hide hf2
      generalize scatF f (q.take k) bl = f1 at *
      clear hs htk hve hok hin hin2 hND0 hps hNt hq hqn hd hoa ht1 hsum1 hsle hscat hlen hsrc hsmall hcell hdM hba e1 e2 hm' hc' hdN e' hs1 HSC hf2
      go_wp2_with (first | ((with_reducible refine ld_sm gb (k * 3) s cur _ hLr hmid ?_ ?_); exact rfl) | ((with_reducible refine al_sp ND ?_ ?_); exact hND.out; intro W hsr hb' hz; have hbc := hND.out ▸ hb'; replace hM := hM.bl hbc; replace hW := hW.bl hbc hB; replace hA := hA.bl hbc; replace hB := Nat.le_trans hB hbc.size; replace hS := Nat.le_trans hS hbc.size; replace hLr := hLr.bl hbc; clear hb' hbc hz) | ((with_reducible refine st_sp ND _ s hsr ?_ ?_ ?_); exact rfl; exact rfl; intro W hnew ho; replace hM := hM.only ho hdO; replace hW := hW.only ho (by omega) (by omega); replace hA := hA.onlyR ho (by omega); replace hLr := hLr.only ho (by omega); replace hS := (show w.heap.size ≤ W.heap.size by rw [ho.size]; exact hS); replace hB := (show B ≤ W.heap.size by rw [ho.size]; exact hB); replace hsr := hnew; clear hnew ho))
      refine wp_region_held_drew (S := (fun V => RowAt V ND s.cells 104)) (by kernel_rfl) ?_ (fun hHeld => ?_)
      · exact hsr.dr
      replace hM := hM.dr
      replace hW := hW.dr
      replace hA := hA.drR
      replace hLr := hLr.dr
      replace hS : w.heap.size ≤ (World.drew _).heap.size := hS
      replace hB : B ≤ (World.drew _).heap.size := hB
      generalize World.drew _ = V at hHeld hM hW hA hLr hS hB ⊢
      clear hsr
      refine wpAnyH_take (i := 0) (oi := ?oi1) (v := .pointer (some ⟨b, 0, none⟩)) ?hi1 (by kernel_rfl) (by kernel_rfl) (by kernel_rfl) ?hQ1 ?hy1 (by assumption) ?rest1
      case hi1 => (simp only [List.getElem?_toArray, List.getElem?_cons_zero]; rfl)
      case hQ1 => exact fun _ _ _ h => h
      case hy1 => exact Or.inl ⟨by rfl, by (intro w hSw; (try dsimp only at hSw); go_simp )⟩
      simp only [Act.put, List.setIfInBounds_toArray, List.set_cons_zero, List.set_cons_succ]
      refine wpAnyH_take (i := 1) (oi := ?oi2) (v := .pointer (some ⟨ND, 0, none⟩)) ?hi2 (by kernel_rfl) (by kernel_rfl) (by kernel_rfl) ?hQ2 ?hy2 (by assumption) ?rest2
      case hi2 => (simp only [List.getElem?_toArray, List.getElem?_cons_zero, List.getElem?_cons_succ]; rfl)
      case hQ2 => exact fun _ _ _ h => h
      case hy2 => exact Or.inl ⟨by rfl, by (intro w hSw; (try dsimp only at hSw); go_simp )⟩
      simp only [Act.put, List.setIfInBounds_toArray, List.set_cons_zero, List.set_cons_succ]
      refine wpAnyH_take (i := 2) (oi := ?oi3) (v := .int .u32 (s.at' : Nat)) ?hi3 (by kernel_rfl) (by kernel_rfl) (by kernel_rfl) ?hQ3 ?hy3 (by assumption) ?rest3
      case hi3 => (simp only [List.getElem?_toArray, List.getElem?_cons_zero, List.getElem?_cons_succ]; rfl)
      case hQ3 => exact fun _ _ _ h => h
      case hy3 => exact y_sat ND s _ (fun V hV => hV) rfl
      simp only [Act.put, List.setIfInBounds_toArray, List.set_cons_zero, List.set_cons_succ]
      refine wpAnyH_take (i := 4) (oi := ?oi4) (v := .slice (some ⟨sb, s1, none⟩) m' c') ?hi4 (by kernel_rfl) (by kernel_rfl) (by kernel_rfl) ?hQ4 ?hy4 (by assumption) ?rest4
      case hi4 => (simp only [List.getElem?_toArray, List.getElem?_cons_zero, List.getElem?_cons_succ]; rfl)
      case hQ4 => exact fun _ _ _ h => h
      case hy4 => exact Or.inl ⟨by rfl, by (intro w hSw; (try dsimp only at hSw); go_simp )⟩
      simp only [Act.put, List.setIfInBounds_toArray, List.set_cons_zero, List.set_cons_succ]
      refine wpAnyH_take (i := 5) (oi := ?oi5) (v := .pointer (some ⟨ND, 1, none⟩)) ?hi5 (by kernel_rfl) (by kernel_rfl) (by kernel_rfl) ?hQ5 ?hy5 (by assumption) ?rest5
      case hi5 => (simp only [List.getElem?_toArray, List.getElem?_cons_zero, List.getElem?_cons_succ]; rfl)
      case hQ5 => exact fun _ _ _ h => h
      case hy5 => exact Or.inl ⟨by rfl, by (intro w hSw; (try dsimp only at hSw); go_simp )⟩
      simp only [Act.put, List.setIfInBounds_toArray, List.set_cons_zero, List.set_cons_succ]
      refine wpAnyH_take (i := 6) (oi := ?oi6) (v := .int .i64 s.n) ?hi6 (by kernel_rfl) (by kernel_rfl) (by kernel_rfl) ?hQ6 ?hy6 (by assumption) ?rest6
      case hi6 => (simp only [List.getElem?_toArray, List.getElem?_cons_zero, List.getElem?_cons_succ]; rfl)
      case hQ6 => exact fun _ _ _ h => h
      case hy6 => exact y_sn ND s _ (fun V hV => hV) rfl
      simp only [Act.put, List.setIfInBounds_toArray, List.set_cons_zero, List.set_cons_succ]
      rw [hN]
      refine wpAnyH_take (i := 7) (oi := ?oi7) (v := .slice (some ⟨sb, s1, none⟩) N c') ?hi7 (by kernel_rfl) (by kernel_rfl) (by kernel_rfl) ?hQ7 ?hy7 (by assumption) ?rest7
      case hi7 => (simp only [List.getElem?_toArray, List.getElem?_cons_zero, List.getElem?_cons_succ]; rfl)
      case hQ7 => exact fun _ _ _ h => h
      case hy7 => exact Or.inl ⟨by rfl, by (intro w hSw; (try dsimp only at hSw); go_simp )⟩
      simp only [Act.put, List.setIfInBounds_toArray, List.set_cons_zero, List.set_cons_succ]
      refine wpAnyH_ready (rs := [3]) (by kernel_rfl) (by simp) ?_
      refine AllReadyH.cons (o := ?oi8) ?hi8 (fun K hK => ?_) AllReadyH.nil
      case hi8 => (simp only [List.getElem?_toArray, List.getElem?_cons_zero, List.getElem?_cons_succ]; rfl)
      rw [if_pos (by rfl)]
      go_simp
      (with_reducible refine (HIM.out _ hA).mono ?_)
      rintro e V2 ⟨rfl, hbc⟩
      have hH2 := hide (hHeld.bl hbc)
      replace hM := hM.bl hbc
      replace hW := hW.bl hbc hB
      replace hA := hA.bl hbc
      replace hLr := hLr.bl hbc
      replace hB := Nat.le_trans hB hbc.size
      replace hS := Nat.le_trans hS hbc.size
      clear hHeld hbc
      go_simp
      refine hK.out _ _ ?_ (fun hHeld => ?_)
      · exact hH2.out
      clear hK K
      clear hH2
      refine wpAnyH_ready (rs := [8]) (by kernel_rfl) (by simp) ?_
      refine AllReadyH.cons (o := ?oi9) ?hi9 (fun K hK => ?_) AllReadyH.nil
      case hi9 => (simp only [List.getElem?_toArray, List.getElem?_cons_zero, List.getElem?_cons_succ]; rfl)
      rw [if_pos (by rfl)]
      go_simp
      (with_reducible refine (HWR.out _ _ hM hW).mono ?_)
      rintro e V3 ⟨rfl, O3, hM3, hW3⟩
      have hH2 := hide (hW3.row hHeld hdO)
      have hqg3 := hW3.no hLr.lt hqg
      replace hLr := hW3.row hLr hqg
      replace hA := hA.wentR hG hW3
      replace hS := Nat.le_trans hS hW3.size
      replace hW := hW.trans hW3
      replace hB := Nat.le_trans hB hW3.size
      clear hM hqg hW3 hHeld
      go_simp
      refine hK.out _ _ ?_ (fun hHeld => ?_)
      · exact hH2.out
      clear hK K
      clear hH2
      refine wpAnyH_take (i := 9) (oi := ?oi10) (v := .bool false) ?hi10 (by kernel_rfl) (by kernel_rfl) (by kernel_rfl) ?hQ10 ?hy10 (by assumption) ?rest10
      case hi10 => (simp only [List.getElem?_toArray, List.getElem?_cons_zero, List.getElem?_cons_succ]; rfl)
      case hQ10 => exact fun _ _ _ h => h
      case hy10 => exact Or.inl ⟨by rfl, by (intro w hSw; (try dsimp only at hSw); go_simp )⟩
      simp only [Act.put, List.setIfInBounds_toArray, List.set_cons_zero, List.set_cons_succ]
      refine wpAnyH_done (by kernel_rfl) ?_ _
      have hsr := hHeld
      clear hHeld
      by_cases hcc : c' = N
      · subst hcc
        go_wp2_with (first | ((with_reducible refine ld_sn ND _ _ hsr ?_ ?_ ?_); exact rfl; exact rfl; rw [hN]))
        go_roundw
        case rel =>
          refine ⟨k + 1, _, d + c', _, hlt, by go_num, HS1.out.symm, HHd.out, by rw [HE1.out, HE2.out, Nat.sub_self, show m' - c' = 0 by omega], (fun hx => absurd hx (by have := HE1.out; omega)), by (rw [HF2.out, ← Nat.add_assoc]; exact hM3), hW, hA, HQO.out _ hLr, (fun g e => by cases e; exact hqg3)⟩
        case measure => simp [intOf]; omega
      · have hcc2 : N < c' := by omega
        have hcc3 : (N : Int) < (c' : Int) := by omega
        go_wp2_with (first | ((with_reducible refine ld_sn ND _ _ hsr ?_ ?_ ?_); exact rfl; exact rfl; rw [hN]))
        go_roundw
        case rel =>
          refine ⟨k + 1, _, d + N, _, hlt, by go_num, HS1.out.symm, HHd.out, by rw [HE1.out, HE2.out], (fun hx => ⟨sb, so, by rw [← Nat.add_assoc, HS9.out], HBA.out⟩), by (rw [HF2.out, ← Nat.add_assoc]; exact hM3), hW, hA, HQO.out _ hLr, (fun g e => by cases e; exact hqg3)⟩
        case measure => simp [intOf]; omega
    · obtain rfl : k = n := by omega
      have ht : q.take k = q := by rw [← HN.out, List.take_length]
      rw [ht] at hM
      go_wp2
      go_ret
      exact ⟨O1, rfl, hM, hW⟩
end Go.Proofs.YtbggkoahofnnjaaDoor
namespace Go.Proofs.YtbggkoahofnnjaaDoor
open Go.RowKit
set_option linter.unusedVariables false
set_option linter.unusedSimpArgs false

def scatE (p : Nat) (l : List Sg) (n : Nat) : Nat := if roomV true 0 l < (n : Int) then 2 else if (partsV true n l).all (inS p) = true then 0 else 22
set_option maxHeartbeats 1000000 in
theorem scato_no (l : List Sg) (hl : l.length ≤ 1000) (hw : ∀ s ∈ l, s.Ok) (bl : List Nat) (bcap : Nat) (ba : Option Addr) {w : World} {B b p c Bl : Nat} {v : Value} {f : Nat → Nat} {O : Nat → Prop} (h : RamB w B b p f c O) (hA : AreasAt w) (hG : 0 < B) (hL : w.ownsRow Bl 104 3 v l.length (segL l)) (hbl : BytesO w O ba bl) (hbc : bl.length ≤ bcap) (hbm : bcap ≤ 9223372036854775807) (hi : (bl.length : Int) ≤ roomV true 0 l) (hin : (partsV true bl.length l).all (inS p) = false) : Calls Tryd.prog 32 #[.pointer (some ⟨b, 0, none⟩), v, .slice ba bl.length bcap] w fun e w' => e = .returned (.iface 59 (.int .i64 22)) ∧ Below w.heap.size w w' := by
  have HR : Hid (Calls Tryd.prog 19 #[v] w fun e w' => e = .returned (.tuple #[.int .i64 (roomV false 0 l), .int .i64 (roomV true 0 l)]) ∧ Below w.heap.size w w') := hide (room_any l (by omega) hw hL)
  have HP : Hid (∀ W, Below w.heap.size w W → Calls Tryd.prog 49 #[.pointer (some ⟨b, 0, none⟩), v, .bool true, .int .i64 (bl.length : Nat)] W fun e w' => Below W.heap.size W w' ∧ e = .returned (.tuple #[.slice none 0 0, .iface 59 (.int .i64 22)])) := hide (fun W hb => (parts_any l (by omega) hw true (bl.length : Int) (by omega) (by omega) (h.bl hb) (hA.bl hb) (own_bel hL hb)).mono (by
    rintro e w' ⟨hb2, ⟨a2, _⟩ | ⟨_, a2⟩⟩
    · rw [hin] at a2; cases a2
    · exact ⟨hb2, a2⟩))
  obtain ⟨av, cap, rfl, _, _⟩ := own_form hL
  generalize bl.length = M at *
  have hlong : ¬ roomV true 0 l < (M : Int) := by omega
  generalize roomV true 0 l = rw' at *
  generalize roomV false 0 l = rr at *
  clear hL hin h hA hbl hi
  go_enter Tryd.func32, Tryd.ntmps32
  go_wp2_with (first | (go_at_call 19; (with_reducible refine HR.out.mono ?_); rintro e W ⟨rfl, hb⟩) | (go_at_call 49; (with_reducible refine (HP.out _ hb).mono ?_); rintro e W2 ⟨hb2, rfl⟩; replace hb := hb.trans (hb2.mono hb.size); clear hb2))
  go_ret
  exact ⟨rfl, hb⟩
theorem scato_any (l : List Sg) (hl : l.length ≤ 1000) (hw : ∀ s ∈ l, s.Ok) (bl : List Nat) (bcap : Nat) (ba : Option Addr) {w : World} {B b p c Bl : Nat} {v : Value} {f : Nat → Nat} {O : Nat → Prop} (h : RamB w B b p f c O) (hA : AreasAt w) (hG : 0 < B) (hL : w.ownsRow Bl 104 3 v l.length (segL l)) (hbl : BytesO w O ba bl) (hbc : bl.length ≤ bcap) (hbm : bcap ≤ 9223372036854775807) (hc9 : c ≤ 900000000) : Calls Tryd.prog 32 #[.pointer (some ⟨b, 0, none⟩), v, .slice ba bl.length bcap] w fun e w' => e = .returned (errR (scatE p l bl.length)) ∧ ∃ O', RamB w' B b p (if scatE p l bl.length = 0 then scatF f (partsV true bl.length l) bl else f) (c + l.length) O' ∧ Went B O O' w w' := by
  unfold scatE
  by_cases h1 : roomV true 0 l < (bl.length : Int)
  · rw [if_pos h1]
    refine (scato_long l hl hw bl bcap ba h hA hG hL hbl hbc hbm h1).mono ?_
    rintro e w' ⟨rfl, hb⟩
    exact ⟨rfl, O, by rw [if_neg (by decide)]; exact (h.bl hb).more (by omega), Went.of hb h.base⟩
  · rw [if_neg h1]
    by_cases h2 : (partsV true bl.length l).all (inS p) = true
    · rw [if_pos h2]
      refine (scato_ok l hl hw bl bcap ba h hA hG hL hbl hbc hbm (by omega) h2 hc9).mono ?_
      rintro e w' ⟨O', rfl, hM, hW⟩
      exact ⟨rfl, O', by rw [if_pos rfl]; exact hM.more (by have := partsV_len true l bl.length; omega), hW⟩
    · rw [if_neg h2]
      refine (scato_no l hl hw bl bcap ba h hA hG hL hbl hbc hbm (by omega) (by simpa using h2)).mono ?_
      rintro e w' ⟨rfl, hb⟩
      exact ⟨rfl, O, by rw [if_neg (by decide)]; exact (h.bl hb).more (by omega), Went.of hb h.base⟩
end Go.Proofs.YtbggkoahofnnjaaDoor
