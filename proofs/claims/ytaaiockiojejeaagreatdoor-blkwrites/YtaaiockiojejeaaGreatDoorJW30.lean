/-
  One request of a working disk, plain: a read of 512 bytes in two parts, a write of 512 bytes in two parts.
-/
import Derived.Test.YtaaiockiojejeaaGreatDoorJW26
import Derived.Test.YtaaiockiojejeaaGreatDoorJW27
import Derived.Test.YtaaiockiojejeaaGreatDoorJW29
import Derived.Test.YtaaiockiojejeaaGreatDoorJW28
namespace Go.Proofs.YtaaiockiojejeaaGreatDoor
open Go.RowKit
set_option linter.unusedVariables false
set_option linter.unusedSimpArgs false

theorem oneB_ok {s g : Sg} (h : s.Ok) (hn : 0 < s.n) (hg : g ∈ oneB s) : g.Ok := by
  unfold oneB at hg
  split at hg
  · rename_i hq
    rw [List.mem_singleton.1 hg]
    have := h.at'
    exact ⟨by show s.at' + s.n.toNat - 1 < _; omega, by show (_ : Int) ≤ 1; decide, by show (1 : Int) ≤ _; decide⟩
  · cases hg
theorem lasB_ok {l : List Sg} (h : ∀ s ∈ l, s.Ok) : (∀ g ∈ lasB l, g.Ok) ∧ (lasB l).length ≤ 1 := by
  rw [lasB_eq]
  cases hf : l.reverse.find? wrS with
  | none => exact ⟨fun g hg => (by cases hg), Nat.zero_le _⟩
  | some s =>
    have hm := List.mem_reverse.1 (List.mem_of_find?_eq_some hf)
    have hw := List.find?_some hf
    simp only [wrS, Bool.and_eq_true, decide_eq_true_eq] at hw
    refine ⟨fun g hg => oneB_ok (h s hm) hw.2 hg, ?_⟩
    show (oneB s).length ≤ 1
    unfold oneB; split <;> simp
set_option maxHeartbeats 2000000 in
theorem tell_any (s : Bk) (ok : s.p.Ok) (v : Value) (hv : v.oneCell' = true) (hd : Int) (l : List Sg) (hl : l.length ≤ 1000) (hl0 : 0 < l.length) (hw : ∀ g ∈ l, g.Ok) {lv : Value} {Bl : Nat} (st : Nat) (hst : st < 256) {w : World} {B b p c : Nat} {f : Nat → Nat} {O : Nat → Prop} (h : RamB w B b p f c O) (hA : AreasAt w) (hG : 2 < B) (hL : w.ownsRow Bl 103 3 lv l.length (segL l)) (hc9 : c ≤ 700000000) :
    Calls Tryz.prog 50 #[.agg (s.c v), .pointer (some ⟨b, 0, none⟩), .int .i64 hd, lv, .int .u8 (st : Nat)] w fun e w' => e = .returned (.agg ((telV p f s hd l st).2.c v)) ∧ ∃ O', RamB w' B b p (telV p f s hd l st).1 (c + 4) O' ∧ Went B O O' w w' := by
  obtain ⟨lk1, lk2⟩ := lasB_ok hw
  have HLa : Hid (∀ W, W.ownsRow Bl 103 3 lv l.length (segL l) → Calls Tryz.prog 92 #[lv] W fun e w' => ∃ v', e = .returned v' ∧ w'.ownsRow W.heap.size 103 3 v' (lasB l).length (segL (lasB l)) ∧ Below W.heap.size W w') := hide (fun W hL => last_any l hw hl hl0 hL)
  have HAn : Hid (∀ W lv2 Bl2 NB, RamB W B b p f c O → AreasAt W → W.ownsRow Bl2 103 3 lv2 (lasB l).length (segL (lasB l)) → RowAt W NB #[.int .u8 (st : Nat)] 5 → ¬ O NB → Calls Tryz.prog 51 #[.agg (s.c v), .pointer (some ⟨b, 0, none⟩), .int .i64 hd, lv2, .slice (some ⟨NB, 0, none⟩) 1 1] W fun e w' => e = .returned (.agg ((telV p f s hd l st).2.c v)) ∧ ∃ O', RamB w' B b p (telV p f s hd l st).1 (c + 4) O' ∧ Went B O O' W w') := hide (fun W lv2 Bl2 NB hM hA hL hr hn => (answer_any s ok v hv hd (lasB l) (by omega) lk1 [st] 1 (some ⟨NB, 0, none⟩) hM hA hG hL ⟨fun _ => ⟨NB, 0, rfl, hr.lt, hn, fun j hj => by (obtain rfl : j = 0 := by simpa using hj); exact hr.cell 0⟩, fun y hy => by rw [List.mem_singleton.1 hy]; exact hst⟩ (by simp) (by decide) (by show 1 < 4294967296; decide) (by omega)).mono (by
    rintro e w' ⟨rfl, O', h1, h2⟩
    exact ⟨rfl, O', h1.more (by omega), h2⟩))
  generalize telV p f s hd l st = tv at *
  obtain ⟨f2, s2⟩ := tv
  generalize lasB l = lb at *
  clear lk1 lk2 hw
  have hB0 := h.base
  have hGw : 2 < w.heap.size := Nat.lt_of_lt_of_le hG hB0
  have hA0 := hA
  clear hA
  go_enter Tryz.func50, Tryz.ntmps50
  go_wp2_with (first | ((with_reducible refine bx_bk w.heap.size s v ?_ ?_ ?_); exact rfl; exact rfl; intro W hr hb hz) | ((with_reducible refine al_bk (w.heap.size + 1) ?_ ?_); exact hz.out; intro W hq hb' hz'; replace hr := hr.bl (hz.out ▸ hb'); replace hb := hb.trans (hb'.mono (by omega)); replace hz := hz'; have hM := h.bl hb; have hW := Went.of (O := O) hb hB0; have hA := hA0.bl hb; have hF := h.far 2; have hS : w.heap.size + 2 ≤ W.heap.size := Nat.le_of_eq hz.out.symm; have hB : B ≤ W.heap.size := Nat.le_trans hB0 hb.size; replace hL := own_bel hL hb; clear hb hz hb' hz'))
  refine wp_region_held_drew (S := (fun V => RowAt V w.heap.size (s.c v) 53)) (by kernel_rfl) ?_ (fun hHeld => ?_)
  · exact hr.dr
  replace hM := hM.dr
  replace hW := hW.dr
  replace hA := hA.drR
  replace hS : w.heap.size + 2 ≤ (World.drew _).heap.size := hS
  replace hB : B ≤ (World.drew _).heap.size := hB
  replace hq := hq.dr
  replace hL := own_dr hL
  generalize World.drew _ = V at hHeld hM hW hA hS hB hq hL ⊢
  clear hr
  refine wpAnyH_take (i := 0) (oi := ?oi1) (v := .agg (s.c v)) ?hi1 (by kernel_rfl) (by kernel_rfl) (by kernel_rfl) ?hQ1 ?hy1 (by assumption) ?rest1
  case hi1 => (simp only [List.getElem?_toArray, List.getElem?_cons_zero]; rfl)
  case hQ1 => exact fun _ _ _ h => h
  case hy1 => exact y_bk w.heap.size s v (fun V hV => hV) rfl rfl
  simp only [Act.put, List.setIfInBounds_toArray, List.set_cons_zero, List.set_cons_succ]
  refine wpAnyH_take (i := 1) (oi := ?oi2) (v := .pointer (some ⟨b, 0, none⟩)) ?hi2 (by kernel_rfl) (by kernel_rfl) (by kernel_rfl) ?hQ2 ?hy2 (by assumption) ?rest2
  case hi2 => (simp only [List.getElem?_toArray, List.getElem?_cons_zero, List.getElem?_cons_succ]; rfl)
  case hQ2 => exact fun _ _ _ h => h
  case hy2 => exact Or.inl ⟨by rfl, by (intro w hSw; (try dsimp only at hSw); go_simp )⟩
  simp only [Act.put, List.setIfInBounds_toArray, List.set_cons_zero, List.set_cons_succ]
  refine wpAnyH_take (i := 2) (oi := ?oi3) (v := .int .i64 hd) ?hi3 (by kernel_rfl) (by kernel_rfl) (by kernel_rfl) ?hQ3 ?hy3 (by assumption) ?rest3
  case hi3 => (simp only [List.getElem?_toArray, List.getElem?_cons_zero, List.getElem?_cons_succ]; rfl)
  case hQ3 => exact fun _ _ _ h => h
  case hy3 => exact Or.inl ⟨by rfl, by (intro w hSw; (try dsimp only at hSw); go_simp )⟩
  simp only [Act.put, List.setIfInBounds_toArray, List.set_cons_zero, List.set_cons_succ]
  refine wpAnyH_take (i := 3) (oi := ?oi4) (v := lv) ?hi4 (by kernel_rfl) (by kernel_rfl) (by kernel_rfl) ?hQ4 ?hy4 (by assumption) ?rest4
  case hi4 => (simp only [List.getElem?_toArray, List.getElem?_cons_zero, List.getElem?_cons_succ]; rfl)
  case hQ4 => exact fun _ _ _ h => h
  case hy4 => exact Or.inl ⟨by rfl, by (intro w hSw; (try dsimp only at hSw); go_simp )⟩
  simp only [Act.put, List.setIfInBounds_toArray, List.set_cons_zero, List.set_cons_succ]
  refine wpAnyH_take (i := 5) (oi := ?oi5) (v := .int .u8 (st : Nat)) ?hi5 (by kernel_rfl) (by kernel_rfl) (by kernel_rfl) ?hQ5 ?hy5 (by assumption) ?rest5
  case hi5 => (simp only [List.getElem?_toArray, List.getElem?_cons_zero, List.getElem?_cons_succ]; rfl)
  case hQ5 => exact fun _ _ _ h => h
  case hy5 => exact Or.inl ⟨by rfl, by (intro w hSw; (try dsimp only at hSw); go_simp )⟩
  simp only [Act.put, List.setIfInBounds_toArray, List.set_cons_zero, List.set_cons_succ]
  refine wpAnyH_ready (rs := [4, 6]) (by kernel_rfl) (by simp) ?_
  refine AllReadyH.cons (o := ?oi6) ?hi6 (fun K hK => ?b6) (AllReadyH.cons (o := ?oi7) ?hi7 (fun K hK => ?b7) AllReadyH.nil)
  case hi6 => (simp only [List.getElem?_toArray, List.getElem?_cons_zero, List.getElem?_cons_succ]; rfl)
  case hi7 => (simp only [List.getElem?_toArray, List.getElem?_cons_zero, List.getElem?_cons_succ]; rfl)
  case b6 =>
    rw [if_pos (by rfl)]
    go_simp
    (with_reducible refine (HLa.out _ hL).mono ?_)
    rintro e V2 ⟨lv2, rfl, hlv, hbc⟩
    have hH2 := hide (hHeld.bl hbc)
    replace hM := hM.bl hbc
    replace hW := hW.bl hbc hB
    replace hA := hA.bl hbc
    replace hB := Nat.le_trans hB hbc.size
    replace hS := Nat.le_trans hS hbc.size
    replace hq := hq.bl hbc
    replace hL := own_bel hL hbc
    (try replace hby := hby.bl hbc)
    clear hHeld hbc
    go_simp
    refine hK.out _ _ ?_ (fun hHeld => ?_)
    · exact hH2.out
    clear hK K
    clear hH2
    refine wpAnyH_ready (rs := [6]) (by kernel_rfl) (by simp) ?_
    refine AllReadyH.cons (o := ?oi8) ?hi8 (fun K hK => ?_) AllReadyH.nil
    case hi8 => (simp only [List.getElem?_toArray, List.getElem?_cons_zero, List.getElem?_cons_succ]; rfl)
    rw [if_pos (by rfl)]
    (with_reducible refine s_bsr 37 5 1 Tryz.underlying37 #[.int .u8 (st : Nat)] V2.heap.size ?_ [(0, .int .u8 (st : Nat))] ?_ (bs_byte st) ?_)
    · exact rfl
    · first | rfl | (simp; done) | kernel_rfl
    intro V3 hby hbc hz3
    have hbn : ¬ O V2.heap.size := fun e => absurd (hM.lt _ e) (by omega)
    have hH2 := hide (hHeld.bl hbc)
    replace hM := hM.bl hbc
    replace hW := hW.bl hbc hB
    replace hA := hA.bl hbc
    replace hB := Nat.le_trans hB hbc.size
    replace hS := Nat.le_trans hS hbc.size
    replace hq := hq.bl hbc
    replace hL := own_bel hL hbc
    (try replace hlv := own_bel hlv hbc)
    clear hHeld hbc hz3
    refine hK.out _ _ ?_ (fun hHeld => ?_)
    · exact hH2.out
    clear hK K
    clear hH2
    refine wpAnyH_ready (rs := [7]) (by kernel_rfl) (by simp) ?_
    refine AllReadyH.cons (o := ?oi9) ?hi9 (fun K hK => ?_) AllReadyH.nil
    case hi9 => (simp only [List.getElem?_toArray, List.getElem?_cons_zero, List.getElem?_cons_succ]; rfl)
    rw [if_pos (by rfl)]
    go_simp
    (with_reducible refine (HAn.out _ _ _ _ hM hA hlv hby hbn).mono ?_)
    rintro e V4 ⟨rfl, O2, hM2, hW2⟩
    have hH2 := hide (hW2.row hHeld (hF.at 0 (by omega)))
    replace hq := hW2.row hq (hF.at 1 (by omega))
    replace hA := hA.wentR hG hW2
    replace hF := hF.went hW2 hS
    replace hS := Nat.le_trans hS hW2.size
    replace hW := hW.trans hW2
    replace hB := Nat.le_trans hB hW2.size
    clear hM hW2 hHeld hL hlv hby hbn
    go_simp
    refine hK.out _ _ ?_ (fun hHeld => ?_)
    · exact hH2.out
    clear hK K
    clear hH2
    refine wpAnyH_ready (rs := [8]) (by kernel_rfl) (by simp) ?_
    refine AllReadyH.cons (o := ?oi10) ?hi10 (fun K hK => ?_) AllReadyH.nil
    case hi10 => (simp only [List.getElem?_toArray, List.getElem?_cons_zero, List.getElem?_cons_succ]; rfl)
    rw [if_pos (by rfl)]
    (with_reducible refine s_bk (w.heap.size + 1) _ _ s2 v hv hq ?_ ?_ ?_)
    · exact rfl
    · exact rfl
    intro V5 hnew ho
    have hH2 := hide (hHeld.only ho (by omega))
    replace hM2 := hM2.only ho (hF.at 1 (by omega))
    replace hW := hW.only ho (by omega) (by omega)
    clear hHeld ho hq
    refine hK.out _ _ ?_ (fun hHeld => ?_)
    · exact hH2.out
    clear hK K
    clear hH2
    refine wpAnyH_done (by kernel_rfl) ?_ _
    go_simp
    go_wp2
    refine bodyPost_ret (results_cell_row Tryz.results50 _ _ (w.heap.size + 1) _ _ _ _ rfl hnew Tryz.underlying53 rfl size_bk) rfl ?_
    exact ⟨rfl, _, hM2, hW⟩
  case b7 =>
    rw [if_pos (by rfl)]
    (with_reducible refine s_bsr 37 5 1 Tryz.underlying37 #[.int .u8 (st : Nat)] V.heap.size ?_ [(0, .int .u8 (st : Nat))] ?_ (bs_byte st) ?_)
    · exact rfl
    · first | rfl | (simp; done) | kernel_rfl
    intro V3 hby hbc hz3
    have hbn : ¬ O V.heap.size := fun e => absurd (hM.lt _ e) (by omega)
    have hH2 := hide (hHeld.bl hbc)
    replace hM := hM.bl hbc
    replace hW := hW.bl hbc hB
    replace hA := hA.bl hbc
    replace hB := Nat.le_trans hB hbc.size
    replace hS := Nat.le_trans hS hbc.size
    replace hq := hq.bl hbc
    replace hL := own_bel hL hbc
    (try replace hlv := own_bel hlv hbc)
    clear hHeld hbc hz3
    refine hK.out _ _ ?_ (fun hHeld => ?_)
    · exact hH2.out
    clear hK K
    clear hH2
    refine wpAnyH_ready (rs := [4]) (by kernel_rfl) (by simp) ?_
    refine AllReadyH.cons (o := ?oi11) ?hi11 (fun K hK => ?_) AllReadyH.nil
    case hi11 => (simp only [List.getElem?_toArray, List.getElem?_cons_zero, List.getElem?_cons_succ]; rfl)
    rw [if_pos (by rfl)]
    go_simp
    (with_reducible refine (HLa.out _ hL).mono ?_)
    rintro e V2 ⟨lv2, rfl, hlv, hbc⟩
    have hH2 := hide (hHeld.bl hbc)
    replace hM := hM.bl hbc
    replace hW := hW.bl hbc hB
    replace hA := hA.bl hbc
    replace hB := Nat.le_trans hB hbc.size
    replace hS := Nat.le_trans hS hbc.size
    replace hq := hq.bl hbc
    replace hL := own_bel hL hbc
    (try replace hby := hby.bl hbc)
    clear hHeld hbc
    go_simp
    refine hK.out _ _ ?_ (fun hHeld => ?_)
    · exact hH2.out
    clear hK K
    clear hH2
    refine wpAnyH_ready (rs := [7]) (by kernel_rfl) (by simp) ?_
    refine AllReadyH.cons (o := ?oi12) ?hi12 (fun K hK => ?_) AllReadyH.nil
    case hi12 => (simp only [List.getElem?_toArray, List.getElem?_cons_zero, List.getElem?_cons_succ]; rfl)
    rw [if_pos (by rfl)]
    go_simp
    (with_reducible refine (HAn.out _ _ _ _ hM hA hlv hby hbn).mono ?_)
    rintro e V4 ⟨rfl, O2, hM2, hW2⟩
    have hH2 := hide (hW2.row hHeld (hF.at 0 (by omega)))
    replace hq := hW2.row hq (hF.at 1 (by omega))
    replace hA := hA.wentR hG hW2
    replace hF := hF.went hW2 hS
    replace hS := Nat.le_trans hS hW2.size
    replace hW := hW.trans hW2
    replace hB := Nat.le_trans hB hW2.size
    clear hM hW2 hHeld hL hlv hby hbn
    go_simp
    refine hK.out _ _ ?_ (fun hHeld => ?_)
    · exact hH2.out
    clear hK K
    clear hH2
    refine wpAnyH_ready (rs := [8]) (by kernel_rfl) (by simp) ?_
    refine AllReadyH.cons (o := ?oi13) ?hi13 (fun K hK => ?_) AllReadyH.nil
    case hi13 => (simp only [List.getElem?_toArray, List.getElem?_cons_zero, List.getElem?_cons_succ]; rfl)
    rw [if_pos (by rfl)]
    (with_reducible refine s_bk (w.heap.size + 1) _ _ s2 v hv hq ?_ ?_ ?_)
    · exact rfl
    · exact rfl
    intro V5 hnew ho
    have hH2 := hide (hHeld.only ho (by omega))
    replace hM2 := hM2.only ho (hF.at 1 (by omega))
    replace hW := hW.only ho (by omega) (by omega)
    clear hHeld ho hq
    refine hK.out _ _ ?_ (fun hHeld => ?_)
    · exact hH2.out
    clear hK K
    clear hH2
    refine wpAnyH_done (by kernel_rfl) ?_ _
    go_simp
    go_wp2
    refine bodyPost_ret (results_cell_row Tryz.results50 _ _ (w.heap.size + 1) _ _ _ _ rfl hnew Tryz.underlying53 rfl size_bk) rfl ?_
    exact ⟨rfl, _, hM2, hW⟩
end Go.Proofs.YtaaiockiojejeaaGreatDoor
namespace Go.Proofs.YtaaiockiojejeaaGreatDoor
open Go.RowKit
set_option linter.unusedVariables false
set_option linter.unusedSimpArgs false

theorem wroteF_nil (f : Nat → Nat) (a : Nat) : wroteF f a [] = f := by
  funext x; unfold wroteF; rw [if_neg (by simp)]
theorem parts_skip {wr b : Bool} {n m : Int} {a : Nat} {t : List Sg} (h : b ≠ wr) : partsV wr n (⟨a, m, b⟩ :: t) = partsV wr n t := by rw [partsV, if_neg (fun q => h q.1)]
theorem parts_void {wr b : Bool} {n m : Int} {a : Nat} {t : List Sg} (h : m ≤ 0) : partsV wr n (⟨a, m, b⟩ :: t) = partsV wr n t := by
  rw [partsV, if_neg (fun q => absurd q.2.1 (by show ¬ 0 < m; omega))]
theorem parts_have {wr : Bool} {n m : Int} {a : Nat} {t : List Sg} (h2 : 0 < m) (h3 : m ≤ n) : partsV wr n (⟨a, m, wr⟩ :: t) = ⟨a, m, wr⟩ :: partsV wr (n - m) t := by
  rw [partsV, if_pos ⟨rfl, h2, by omega⟩]
  show (⟨a, if m ≤ n then m else n, wr⟩ : Sg) :: partsV wr (n - if m ≤ n then m else n) t = _
  rw [if_pos h3]
theorem more0 {n : Int} (h0 : 0 ≤ n) (h1 : n ≤ 9223372036854775807) : moreN 0 n = n := by
  unfold moreN; rw [if_pos h0, if_pos (by omega)]; omega
theorem parts_nil {wr : Bool} {n : Int} : partsV wr n [] = [] := rfl
theorem WordAt.lies (g : Nat → Nat → Nat) (k a v : Nat) (ha : a % 4 = 0) (hv : wordL g k a = v) : WordAt (laidW g k) a v := hv ▸ WordAt.laid g k a ha
theorem seg_cells (f : Nat → Nat) (a : Nat) (n : Int) (b : Bool) : segF f ⟨a, n, b⟩ = (List.range n.toNat).map fun j => f (plM a + j) := rfl
theorem moreN_of {s n : Int} (h0 : 0 ≤ s) (h1 : 0 ≤ n) (h2 : s + n ≤ 9223372036854775807) : moreN s n = s + n := by
  unfold moreN; rw [if_pos h1, if_pos (by omega)]
/-- The head of a chain. -/
def hed16 (f : Nat → Nat) : List Nat := (List.range 16).map fun j => f (768 + j)
theorem nm_kind {f : Nat → Nat} {v : Nat} (h : WordAt f 768 v) (hv : v < 256) : nmL ((hed16 f).take 4) = v := by
  show f (768 + 0) + 256 * (f (768 + 1) + 256 * (f (768 + 2) + 256 * (f (768 + 3) + 256 * 0))) = v
  rw [h.b0, h.b1, h.b2, h.b3]
  simp only [Nat.pow_zero, Nat.div_one, Nat.pow_one, Nat.reducePow]; omega
theorem nm_sect {f : Nat → Nat} {v : Nat} (h : WordAt f 776 v) (h2 : WordAt f 780 0) (hv : v < 256) : nmL (((hed16 f).drop 8).take 8) = v := by
  show f (776 + 0) + 256 * (f (776 + 1) + 256 * (f (776 + 2) + 256 * (f (776 + 3) + 256 * (f (780 + 0) + 256 * (f (780 + 1) + 256 * (f (780 + 2) + 256 * (f (780 + 3) + 256 * 0))))))) = v
  rw [h.b0, h.b1, h.b2, h.b3, h2.b0, h2.b1, h2.b2, h2.b3]
  simp only [Nat.pow_zero, Nat.div_one, Nat.pow_one, Nat.reducePow, Nat.zero_div, Nat.zero_mod]; omega
theorem stp_end {f : Nat → Nat} (h : WordAt f 256 65536) (s : Bk) (hs : s.p.q0.r = lR 1 0) (a : List Ak) : stpV 2 ⟨f, s, a⟩ = (false, ⟨f, { s with be := false }, a⟩) := by
  unfold stpV
  simp only [hs, next_two h]
  simp
theorem nxt_one (q : Rq) (h : q.id = 0) : nxtV [q] 2 0 = 1 := by
  have e0 : idxQ [q] 0 = 0 := by unfold idxQ; simp [List.findIdx?_cons, h]
  have e1 : idxQ [q] 1 = -1 := by unfold idxQ; simp [List.findIdx?_cons, h]
  rw [nxtV, e0, if_neg (by decide), nxtV, if_pos (by rw [e1]; decide)]
/-- The disk, when a chain was taken. -/
def lvT : Bk := ⟨lvP 1 0 0, 100, true, 0, []⟩
theorem lv_ring : lvS.ring (lR 1 0) = lvT := by kernel_rfl
theorem ent_one (f : Nat → Nat) (c : Ch) : (entV f lvT c).1 = ⟨lvP 1 0 0, 100, true, 1, [reqV lvT c]⟩ := by
  have h : (entV f lvT c).1 = ⟨lvT.p, lvT.sc, lvT.be, nxtV (lvT.l ++ [reqV lvT c]) (lvT.l.length + 2) lvT.nx, lvT.l ++ [reqV lvT c]⟩ := rfl
  rw [h, show lvT.l = [] from rfl, show lvT.nx = 0 from rfl, List.nil_append, List.length_nil, Nat.zero_add, nxt_one _ rfl]
  rfl
theorem srv_one (f : Nat → Nat) (c : Ch) (hk : c.kd = 0 ∨ c.kd = 1) (hw : isWit 100 c.se c.dat.toNat = true) : srvV 2 f lvT c = (f, ⟨lvP 1 0 0, 100, true, 1, [reqV lvT c]⟩, [(entV f lvT c).2]) := by
  unfold srvV
  rw [if_neg (by omega), if_pos (by unfold Ch.mov; rcases hk with e | e <;> rw [e] <;> decide), if_pos (show isWit lvT.sc c.se c.dat.toNat = true from hw), ent_one]
theorem stp_go {p : Nat} {f : Nat → Nat} {s : Bk} {a : List Ak} {r : Rg} {hd : Nat} {c : Ch} (h1 : nextV p f s.p.q0.r = (r, hd, true, 0)) (h2 : lookV p f r ((hd : Nat) : Int) = some c) : stpV p ⟨f, s, a⟩ = (true, ⟨(srvV p f (s.ring r) c).1, (srvV p f (s.ring r) c).2.1, a ++ (srvV p f (s.ring r) c).2.2⟩) := by
  unfold stpV
  simp only [h1]
  rw [h2]
  rfl
/-- One chain is taken and asked for. -/
theorem pol_ask {f : Nat → Nat} (h1 : WordAt f 256 65536) (h2 : WordAt f 260 0) {c : Ch} (hl : lookV 2 f (lR 1 0) ((0 : Nat) : Int) = some c) (hk : c.kd = 0 ∨ c.kd = 1) (hw : isWit 100 c.se c.dat.toNat = true) :
    polV 2 f lvS = ⟨f, ⟨lvP 1 0 0, 100, false, 1, [reqV lvT c]⟩, [(entV f lvT c).2]⟩ := by
  have hn : nextV 2 f lvS.p.q0.r = (lR 1 0, 0, true, 0) := next_one h1 h2
  have hst := stp_go (a := []) hn hl
  rw [lv_ring, srv_one f c hk hw] at hst
  exact pol_one (by kernel_rfl) hst (by show 0 < 8; decide) (by show 1 < 8; decide) (stp_end h1 _ rfl _)
def rdL (c : Nat) : List Sg := [⟨2147487744, (c : Nat), true⟩, ⟨2147488768, ((513 - c : Nat) : Int), true⟩]
def rdQ (k c : Nat) : Rq := ⟨0, 0, false, k, 512, rdL c⟩
def rdS (k c : Nat) : Bk := ⟨lvP 1 0 0, 100, false, 1, [rdQ k c]⟩
def rdA (k : Nat) : Ak := ⟨0, false, k, 512, []⟩
theorem look_of {p : Nat} {f : Nat → Nat} {r : Rg} {hd : Int} {ps : List Sg} (h : walkV p f r hd = some ps) (hc : (decide (16 ≤ (hedF f ps).length) && (decide (1 ≤ roomV true 0 ps) && (!(chOf f hd ps).mov || (chOf f hd ps).fit))) = true) : lookV p f r hd = some (chOf f hd ps) := by
  unfold lookV
  rw [h]
  exact if_pos hc
theorem plM_768 : plM 2147484416 = 768 := by kernel_rfl
theorem wit_ok {k : Nat} (hk : k < 99) : isWit 100 k 512 = true := by
  unfold isWit
  rw [decide_eq_true (show k ≤ 100 by omega), decide_eq_true (show 512 / 512 ≤ 100 - k by omega)]
  rfl
/-- What memory is, when the disk answered. -/
def rdF (f : Nat → Nat) (c : Nat) (b : List Nat) : Nat → Nat := giveF (lR 1 0) (wroteF (wroteF f 4096 (b.take c)) 5120 ((b.drop c).take (513 - c))) 0 513
/-- The write. -/
def woP (c : Nat) : List Sg := [⟨2147484416, ((16 + c : Nat) : Int), false⟩, ⟨2147487744, ((512 - c : Nat) : Int), false⟩, ⟨2147488768, 1, true⟩]
def woQ (k : Nat) : Rq := ⟨0, 0, true, k, 512, [⟨2147488768, 1, true⟩]⟩
def woS (k : Nat) : Bk := ⟨lvP 1 0 0, 100, false, 1, [woQ k]⟩
def woA (k : Nat) (d : List Nat) : Ak := ⟨0, true, k, 512, d⟩
def woD (f : Nat → Nat) (c : Nat) : List Nat := (gathF f (partsV false maxI (woP c))).drop 16
theorem wr_look {f : Nat → Nat} {c k : Nat} (h : Off3 f 2147484416 (16 + c) 2147487744 (512 - c) 131073 2147488768 1 2) (h0 : WordAt f 768 1) (h1 : WordAt f 776 k) (h2 : WordAt f 780 0) (hc : c ≤ 512) (hk : k < 99) :
    lookV 2 f (lR 1 0) ((0 : Nat) : Int) = some ⟨0, 1, k, woP c, 528, 1⟩ := by
  have hw := walk_three h 1 0 (by decide) (by decide) (by decide) (by omega) (by omega) (by omega) (.inl rfl) rfl (by omega) (plB_at 768 _ (by omega)) (plB_at 4096 _ (by omega)) (plB_at 5120 _ (by omega))
  rw [show decide ((131073 : Nat) = 131075) = false from rfl] at hw
  have hh : hedF f (woP c) = hed16 f := by
    unfold hedF woP
    have ef : firL 16 [⟨2147484416, ((16 + c : Nat) : Int), false⟩, ⟨2147487744, ((512 - c : Nat) : Int), false⟩, ⟨2147488768, 1, true⟩] = [⟨2147484416, 16, false⟩, ⟨2147487744, 0, false⟩, ⟨2147488768, 0, true⟩] := by
      have e1 : (if ((16 + c : Nat) : Int) ≤ 16 then ((16 + c : Nat) : Int) else 16) = 16 := by split <;> omega
      have e2 : (if ((512 - c : Nat) : Int) ≤ 0 then ((512 - c : Nat) : Int) else 0) = 0 := by split <;> omega
      simp only [firL]
      rw [e1, show (16 : Int) - 16 = 0 from rfl, e2]
      rfl
    rw [ef, parts_have (by decide) (by decide), parts_void (by decide), parts_void (by decide)]
    show segF f _ ++ [] = _
    rw [List.append_nil, seg_cells, plM_768]
    rfl
  have r0 : roomV false 0 (woP c) = 528 := by
    show moreN (moreN 0 ((16 + c : Nat) : Int)) ((512 - c : Nat) : Int) = 528
    rw [more0 (by omega) (by omega), moreN_of (by omega) (by omega) (by omega)]; omega
  have r1 : roomV true 0 (woP c) = 1 := by kernel_rfl
  have hch : chOf f 0 (woP c) = ⟨0, 1, k, woP c, 528, 1⟩ := by
    unfold chOf
    rw [hh, nm_kind h0 (by decide), nm_sect h1 h2 (by omega), r0, r1]
  have hcond : (decide (16 ≤ (hedF f (woP c)).length) && (decide (1 ≤ roomV true 0 (woP c)) && (!(chOf f 0 (woP c)).mov || (chOf f 0 (woP c)).fit))) = true := by
    rw [hch, hh, r1]
    kernel_rfl
  exact (look_of hw hcond).trans (congrArg some hch)
theorem wr_pol {f : Nat → Nat} {c k : Nat} (h : Off3 f 2147484416 (16 + c) 2147487744 (512 - c) 131073 2147488768 1 2) (h0 : WordAt f 768 1) (h1 : WordAt f 776 k) (h2 : WordAt f 780 0) (hc : c ≤ 512) (hk : k < 99) :
    polV 2 f lvS = ⟨f, woS k, [woA k (woD f c)]⟩ := by
  rw [pol_ask h.cnt h.hed (wr_look h h0 h1 h2 hc hk) (.inr rfl) (by
    exact wit_ok hk)]
  have e1 : reqV lvT ⟨0, 1, k, woP c, 528, 1⟩ = woQ k := by
    show Rq.mk 0 0 true (k % 4294967296) 512 [⟨2147488768, 1, true⟩] = _
    rw [Nat.mod_eq_of_lt (by omega)]; rfl
  have e2 : (entV f lvT ⟨0, 1, k, woP c, 528, 1⟩).2 = woA k (woD f c) := by
    show Ak.mk 0 true (k % 4294967296) 512 (woD f c) = _
    rw [Nat.mod_eq_of_lt (by omega)]; rfl
  rw [e1, e2]; rfl
theorem wr_gath (f : Nat → Nat) (c : Nat) (hc : c ≤ 512) : gathF f (partsV false maxI (woP c)) = (List.range (16 + c)).map (fun j => f (768 + j)) ++ (List.range (512 - c)).map (fun j => f (4096 + j)) := by
  unfold woP
  rw [parts_have (by show 0 < ((16 + c : Nat) : Int); omega) (by show ((16 + c : Nat) : Int) ≤ 9223372036854775807; omega)]
  rcases Nat.lt_or_ge c 512 with e | e
  · rw [parts_have (by show 0 < ((512 - c : Nat) : Int); omega) (by show ((512 - c : Nat) : Int) ≤ 9223372036854775807 - ((16 + c : Nat) : Int); omega), parts_skip (by simp)]
    show segF f _ ++ (segF f _ ++ []) = _
    rw [List.append_nil, seg_cells, seg_cells, Int.toNat_natCast, Int.toNat_natCast]; rfl
  · obtain rfl : c = 512 := by omega
    rw [parts_void (by simp), parts_skip (by simp), parts_nil, gathF_one, seg_cells, Int.toNat_natCast, plM_768]
    simp only [Nat.sub_self, List.range_zero, List.map_nil, List.append_nil]
theorem wr_data (f : Nat → Nat) (c : Nat) (hc : c ≤ 512) (b : List Nat) (hb : b.length = 512) : woD (wroteF (wroteF f 784 (b.take c)) 4096 (b.drop c)) c = b := by
  unfold woD
  rw [wr_gath _ c hc]
  apply List.ext_getElem?
  intro j
  rw [List.getElem?_drop]
  rcases Nat.lt_or_ge j c with e | e
  · rw [List.getElem?_append_left (by simp; omega), List.getElem?_map, List.getElem?_range (by omega)]
    show some (wroteF _ _ _ (768 + (16 + j))) = _
    unfold wroteF
    simp only [List.length_take, List.length_drop, hb]
    rw [if_neg (by omega), if_pos (by omega), show 768 + (16 + j) - 784 = j by omega, List.getElem?_take, if_pos e, List.getElem?_eq_getElem (by omega)]
    rfl
  · rw [List.getElem?_append_right (by simp; omega), List.length_map, List.length_range, List.getElem?_map]
    rcases Nat.lt_or_ge j 512 with q | q
    · rw [List.getElem?_range (by omega)]
      show some (wroteF _ _ _ (4096 + (16 + j - (16 + c)))) = _
      unfold wroteF
      simp only [List.length_take, List.length_drop, hb]
      rw [if_pos (by omega), show 4096 + (16 + j - (16 + c)) - 4096 = j - c by omega, List.getElem?_drop, show c + (j - c) = j by omega, List.getElem?_eq_getElem (by omega)]
      rfl
    · rw [List.getElem?_eq_none (by simp; omega), List.getElem?_eq_none (by omega)]; rfl
theorem wr_tel (f : Nat → Nat) (k : Nat) : (telV 2 f (woS k) 0 [⟨2147488768, 1, true⟩] 1).1 5120 = 1 := by
  have hp : partsV true 1 [⟨2147488768, 1, true⟩] = [⟨2147488768, 1, true⟩] := by rw [parts_have (by decide) (by decide)]; rfl
  have hs : scatE 2 [⟨2147488768, 1, true⟩] 1 = 0 := by
    unfold scatE
    have r1 : roomV true 0 [⟨2147488768, 1, true⟩] = 1 := by
      show moreN 0 1 = 1
      rw [more0 (by decide) (by decide)]
    rw [r1, if_neg (by decide), if_pos]
    show (partsV true 1 [⟨2147488768, 1, true⟩]).all (inS 2) = true
    rw [hp]
    show (plB 2 (2147483648 + 5120) 1 && true) = true
    rw [plB_at 5120 1 (by omega)]; rfl
  have hg : giveV 2 (wroteF f 5120 [1]) (lR 1 0) 0 1 = (giveF (lR 1 0) (wroteF f 5120 [1]) 0 1, some (lR 1 1)) := by
    unfold giveV
    rw [if_pos (lR_chk 1 0), if_pos (by decide), if_pos (by kernel_rfl), if_pos (by kernel_rfl)]
    rfl
  have hsc : scatF f (partsV true ((1 : Nat) : Int) [⟨2147488768, 1, true⟩]) [1] = wroteF f 5120 [1] := by
    show scatF f (partsV true 1 [⟨2147488768, 1, true⟩]) [1] = _
    rw [hp]
    show wroteF f (plM (2147483648 + 5120)) [1] = _
    rw [plM_lv]
  unfold telV
  show (ansV 2 f (woS k) 0 [⟨2147488768, 1, true⟩] [1]).1 5120 = 1
  unfold ansV
  rw [show ([1] : List Nat).length = 1 from rfl, if_pos hs, hsc, show (woS k).p.q0.r = lR 1 0 from rfl, hg]
  show giveF (lR 1 0) (wroteF f 5120 [1]) 0 1 5120 = 1
  unfold giveF
  rw [show plM (usH (lR 1 0)) = 516 by kernel_rfl, show plM (usN (lR 1 0)) = 520 by kernel_rfl, show plM (usC (lR 1 0)) = 514 by kernel_rfl]
  unfold wroteF
  simp only [numB_len]
  rw [if_neg (by omega), if_neg (by omega), if_neg (by omega), if_pos (by simp)]
  rfl
/-- The words of a read, and of a write. -/
def rdG (c k : Nat) : Nat → Nat → Nat
  | 0, 0 => 0 | 0, _ => 2147484416 | 1, 0 => 8 | 1, _ => 16 | 2, 0 => 12 | 2, _ => 65537 | 3, 0 => 16 | 3, _ => 2147487744 | 4, 0 => 24 | 4, _ => c | 5, 0 => 28 | 5, _ => 131075
  | 6, 0 => 32 | 6, _ => 2147488768 | 7, 0 => 40 | 7, _ => 513 - c | 8, 0 => 44 | 8, _ => 2 | 9, 0 => 256 | 9, _ => 65536 | _, 0 => 776 | _, _ => k
def woG (c k : Nat) : Nat → Nat → Nat
  | 0, 0 => 0 | 0, _ => 2147484416 | 1, 0 => 8 | 1, _ => 16 + c | 2, 0 => 12 | 2, _ => 65537 | 3, 0 => 16 | 3, _ => 2147487744 | 4, 0 => 24 | 4, _ => 512 - c | 5, 0 => 28 | 5, _ => 131073
  | 6, 0 => 32 | 6, _ => 2147488768 | 7, 0 => 40 | 7, _ => 1 | 8, 0 => 44 | 8, _ => 2 | 9, 0 => 256 | 9, _ => 65536 | 10, 0 => 768 | 10, _ => 1 | _, 0 => 776 | _, _ => k
theorem wr_off (c k : Nat) : Off3 (laidW (woG c k) 12) 2147484416 (16 + c) 2147487744 (512 - c) 131073 2147488768 1 2 := by
  exact ⟨WordAt.lies (woG c k) 12 256 _ (by decide) (by kernel_rfl), WordAt.lies (woG c k) 12 260 _ (by decide) (by kernel_rfl), WordAt.lies (woG c k) 12 0 _ (by decide) (by kernel_rfl), WordAt.lies (woG c k) 12 4 _ (by decide) (by kernel_rfl), WordAt.lies (woG c k) 12 8 _ (by decide) (by kernel_rfl), WordAt.lies (woG c k) 12 12 _ (by decide) (by kernel_rfl), WordAt.lies (woG c k) 12 16 _ (by decide) (by kernel_rfl), WordAt.lies (woG c k) 12 20 _ (by decide) (by kernel_rfl), WordAt.lies (woG c k) 12 24 _ (by decide) (by kernel_rfl), WordAt.lies (woG c k) 12 28 _ (by decide) (by kernel_rfl), WordAt.lies (woG c k) 12 32 _ (by decide) (by kernel_rfl), WordAt.lies (woG c k) 12 36 _ (by decide) (by kernel_rfl), WordAt.lies (woG c k) 12 40 _ (by decide) (by kernel_rfl), WordAt.lies (woG c k) 12 44 _ (by decide) (by kernel_rfl)⟩
theorem Off3.wrote {f : Nat → Nat} {a0 n0 a1 n1 x1 a2 n2 x2 b : Nat} {l : List Nat} (h : Off3 f a0 n0 a1 n1 x1 a2 n2 x2) (hb : 264 ≤ b) : Off3 (wroteF f b l) a0 n0 a1 n1 x1 a2 n2 x2 :=
  ⟨h.cnt.before (by omega), h.hed.before (by omega), h.d00.before (by omega), h.d01.before (by omega), h.d02.before (by omega), h.d03.before (by omega), h.d10.before (by omega), h.d11.before (by omega), h.d12.before (by omega), h.d13.before (by omega), h.d20.before (by omega), h.d21.before (by omega), h.d22.before (by omega), h.d23.before (by omega)⟩
theorem wr_laid (c k : Nat) (hc : c ≤ 512) (hk : k < 99) (l m : List Nat) : polV 2 (wroteF (wroteF (laidW (woG c k) 12) 784 l) 4096 m) lvS = ⟨wroteF (wroteF (laidW (woG c k) 12) 784 l) 4096 m, woS k, [woA k (woD (wroteF (wroteF (laidW (woG c k) 12) 784 l) 4096 m) c)]⟩ :=
  wr_pol (((wr_off c k).wrote (b := 784) (by decide)).wrote (b := 4096) (by decide)) (((WordAt.lies (woG c k) 12 768 _ (by decide) (by kernel_rfl)).before (b := 784) (by decide)).before (b := 4096) (by decide)) (((WordAt.lies (woG c k) 12 776 _ (by decide) (by kernel_rfl)).before (b := 784) (by decide)).before (b := 4096) (by decide)) (((WordAt.lies (woG c k) 12 780 _ (by decide) (by kernel_rfl)).before (b := 784) (by decide)).before (b := 4096) (by decide)) hc hk
end Go.Proofs.YtaaiockiojejeaaGreatDoor
