/-
  What ring's Give does, where head and number can be stored.
-/
import Derived.Test.YtaaiockiojejeaaGreatDoorJH18
import Derived.Test.YtaaiockiojejeaaGreatDoorJH11
namespace Go.Proofs.YtaaiockiojejeaaGreatDoor
open Go.RowKit
set_option linter.unusedVariables false
set_option linter.unusedSimpArgs false

attribute [local go_sem] Rg.at0 Rg.at1 Rg.at2 Rg.at3 Rg.at4 Rg.at5
theorem AreasAt.growR {w W : World} {row : Option Nat} (h : AreasAt w) (hg : w.grownBy W row) (hn : ∀ g, row = some g → 2 < g) : AreasAt W := by
  have e : W.heap[2]? = w.heap[2]? := hg.block _ h.lt (fun k => absurd (hn _ k.symm) (by omega))
  intro d hd
  obtain ⟨h1, h2, h3⟩ := h d hd
  exact ⟨(cell_of_heap e _).trans h1, (cell_of_heap e _).trans h2, (cell_of_heap e _).trans h3⟩
theorem own_lower1 {W : World} {B e sz n : Nat} {v : Value} {xs : List Value} (h : W.ownsRow (B + 1) e sz v n xs) : W.ownsRow B e sz v n xs := by
  refine ⟨h.1, h.2.imp id ?_⟩
  rintro ⟨g, cap, cur, rfl, hb, hgg, rest⟩
  exact ⟨g, cap, cur, rfl, by omega, hgg, rest⟩
/-- The descriptor of a number. -/
def dscAt (f : Nat → Nat) (r : Rg) (n : Int) : Nat → Nat := wordsR f (plM (deA r n.toNat))
/-- The descriptors of a chain, of k at most. -/
def followV (p : Nat) (f : Nat → Nat) (r : Rg) : Nat → Int → Option (List (Nat → Nat))
  | 0, _ => none
  | k + 1, n =>
    if 0 ≤ n ∧ n < r.sz then
      if plB p (deA r n.toNat) 16 then
        (if hasD (dscAt f r n) 1 then (followV p f r k (dscAt f r n 3 / 65536 : Nat)).map (dscAt f r n :: ·) else some [dscAt f r n])
      else none
    else none
theorem follow_len {p : Nat} {f : Nat → Nat} {r : Rg} : ∀ (k : Nat) (n : Int) (l : List (Nat → Nat)), followV p f r k n = some l → l.length ≤ k ∧ 0 < l.length
  | 0, n, l, h => by cases h
  | k + 1, n, l, h => by
    simp only [followV] at h
    split at h
    · split at h
      · split at h
        · cases hq : followV p f r k (dscAt f r n 3 / 65536 : Nat) with
          | none => rw [hq] at h; cases h
          | some l' =>
            have := follow_len k _ l' hq
            rw [hq] at h
            simp only [Option.map_some, Option.some.injEq] at h
            subst h
            simp; omega
        · cases h; simp
      · cases h
    · cases h
theorem dscAt_lt {f : Nat → Nat} (hf : ∀ x, f x < 256) (r : Rg) (n : Int) (i : Nat) : dscAt f r n i < 4294967296 := numF_lt hf _ 4
theorem follow_words {p : Nat} {f : Nat → Nat} {r : Rg} (hf : ∀ x, f x < 256) : ∀ (k : Nat) (n : Int) (l : List (Nat → Nat)), followV p f r k n = some l → ∀ g ∈ l, ∀ i, g i < 4294967296
  | 0, n, l, h => by cases h
  | k + 1, n, l, h => by
    simp only [followV] at h
    split at h
    · split at h
      · split at h
        · cases hq : followV p f r k (dscAt f r n 3 / 65536 : Nat) with
          | none => rw [hq] at h; cases h
          | some l' =>
            have ih := follow_words hf k _ l' hq
            rw [hq] at h
            simp only [Option.map_some, Option.some.injEq] at h
            subst h
            intro g hg i
            rcases List.mem_cons.1 hg with rfl | hg
            · exact dscAt_lt hf r n i
            · exact ih g hg i
        · cases h
          intro g hg i
          obtain rfl := List.mem_singleton.1 hg
          exact dscAt_lt hf r n i
      · cases h
    · cases h
set_option maxHeartbeats 4000000 in
theorem follow_any (r : Rg) (hr0 : r.Ok) (hc : chkR r = true) (hd : Int) {w : World} {B b p c : Nat} {f : Nat → Nat} {O : Nat → Prop} (h : RamB w B b p f c O) (hA : AreasAt w) (hG : 2 < B) :
    Calls Tryz.prog 112 #[.agg r.cells, .pointer (some ⟨b, 0, none⟩), .int .i64 hd] w fun e w' => ∃ O', RamB w' B b p f c O' ∧ Went B O O' w w' ∧ ((followV p f r r.sz.toNat hd = none ∧ e = .returned (.tuple #[.slice none 0 0, .iface 129 (.int .i64 22)])) ∨ ∃ l v, followV p f r r.sz.toNat hd = some l ∧ e = .returned (.tuple #[v, .nilIface]) ∧ w'.ownsRow w.heap.size 226 4 v l.length (dscL l) ∧ ∀ g, v.ownBlock = some g → ¬ O' g) := by
  have hB0 := h.base
  have hGw : 2 < w.heap.size := Nat.lt_of_lt_of_le hG hB0
  have hA0 := hA
  have HH := hide h
  have hsm := hide h.small
  obtain ⟨k, hk, hk0, hk1⟩ := chkR_sz hc
  obtain ⟨al1, al2, al3⟩ := chkR_al hc
  have hkn : r.sz.toNat = k := by omega
  rw [hkn]
  have HIS : Hid (∀ n W, Calls Tryz.prog 126 #[.agg r.cells, .int .i64 n] W fun e w' => e = .returned (.bool (decide (0 ≤ n ∧ n < r.sz))) ∧ Below W.heap.size W w') := hide (fun n W => ishead_any r n W)
  have hk' := hide hk
  clear h hA hkn hk
  go_enter Tryz.func112, Tryz.ntmps112
  go_wp2_with (first | ((with_reducible refine bx_rp w.heap.size r ?_ ?_ ?_); exact rfl; exact rfl; intro W hr hb hz))
  go_loopw [8, 9] (fun ov nv wr => ∃ (acc : List (Nat → Nat)) (n : Int) (O1 : Nat → Prop), acc.length ≤ k ∧ nv = .int .i64 n ∧ followV p f r k hd = (followV p f r (k - acc.length) n).map (acc ++ ·) ∧ RamB wr B b p f c O1 ∧ Went B O O1 w wr ∧ AreasAt wr ∧ RowAt wr w.heap.size r.cells 45 ∧ wr.ownsRow (w.heap.size + 1) 226 4 ov acc.length (dscL acc) ∧ (∀ g, ov.ownBlock = some g → ¬ O1 g) ∧ FarB O1 w.heap.size 1 ∧ w.heap.size + 1 ≤ wr.heap.size) (fun ov nv _ => 300 - lenV ov)
  case atStart =>
    have hbw : Below w.heap.size w W := hb
    refine ⟨[], hd, O, Nat.zero_le _, rfl, ?_, HH.out.bl hbw, Went.of hbw hB0, hA0.bl hbw, hr, World.ownsRow_nil _ _ _ _, (fun g hg => by cases hg), HH.out.far 1, by have := hz.out; omega⟩
    show followV p f r k hd = (followV p f r k hd).map (([] : List (Nat → Nat)) ++ ·)
    cases followV p f r k hd <;> rfl
  case round =>
    clear hr hb hz
    obtain ⟨acc, n, O1, hk2, rfl, hfo, hM, hW, hA, hr, hL, hLn, hF, hS⟩ := hrel
    have hB : B ≤ wr.heap.size := by omega
    obtain ⟨na, hna⟩ : ∃ x, acc.length = x := ⟨_, rfl⟩
    rw [hna] at hk2 hL hfo
    have HNA := hide hna
    obtain ⟨av, cap, rfl, hcap1, hcap2⟩ := own_form hL
    have hsz : r.sz = (k : Int) := hk'.out
    have HFO := hide hfo
    clear hfo hna
    by_cases hin : (0 ≤ n ∧ n < r.sz) ∧ na < k
    · obtain ⟨hin1, hin2⟩ := hin
      obtain ⟨m, rfl⟩ := Int.eq_ofNat_of_zero_le hin1.1
      have hml : m < 256 := by omega
      have d0 : decide (0 ≤ (m : Int) ∧ (m : Int) < r.sz) = true := decide_eq_true hin1
      have lt0 : (na : Int) < r.sz := by omega
      have HI1 := hide (fun W => (d0 ▸ HIS.out (m : Int) W : Calls Tryz.prog 126 #[.agg r.cells, .int .i64 (m : Int)] W fun e w' => e = .returned (.bool true) ∧ Below W.heap.size W w'))
      have hfs : followV p f r (k - na) (m : Int) = if plB p (deA r m) 16 then (if hasD (dscAt f r m) 1 then (followV p f r (k - na - 1) (dscAt f r m 3 / 65536 : Nat)).map (dscAt f r m :: ·) else some [dscAt f r m]) else none := by
        rw [show k - na = (k - na - 1) + 1 by omega]
        simp only [followV]
        rw [if_pos hin1]
        rfl
      clear hin1 d0
      by_cases hpl : plB p (deA r m) 16 = true
      · have HRD : Hid (∀ W O1, RamB W B b p f c O1 → AreasAt W → Calls Tryz.prog 135 #[.agg r.cells, .pointer (some ⟨b, 0, none⟩), .int .i64 (m : Nat)] W fun e w' => e = .returned (.tuple #[.agg (dscV (dscAt f r m)), .nilIface]) ∧ ∃ O', RamB w' B b p f c O' ∧ Went B O1 O' W w') := hide (fun W O1 hM hA => rd_ok r hr0 al1 m hml hM hA hG hpl)
        rw [if_pos hpl] at hfs
        have hgl : ∀ i, dscAt f r m i < 4294967296 := fun i => dscAt_lt hsm.out r m i
        obtain ⟨d, hdd⟩ : ∃ d, dscAt f r m = d := ⟨_, rfl⟩
        rw [hdd] at HRD hfs hgl
        have HHS : Hid (∀ W, Calls Tryz.prog 115 #[.agg (dscV d), .int .u32 1] W fun e w' => e = .returned (.bool (hasD d 1)) ∧ Below W.heap.size W w') := hide (fun W => hasd_any d (hgl 3) 1 (by decide) W)
        have HNX : Hid (∀ W, Calls Tryz.prog 136 #[.agg (dscV d)] W fun e w' => e = .returned (.int .i64 (d 3 / 65536 : Nat)) ∧ Below W.heap.size W w') := hide (fun W => next_any d (hgl 3) W)
        have HFS := hide hfs
        have hdl := hgl 3
        clear hdd hfs hpl hgl
        by_cases hhas : hasD d 1 = true
        · rw [hhas] at HHS
          obtain ⟨nx, hnx⟩ : ∃ x, d 3 / 65536 = x := ⟨_, rfl⟩
          rw [hnx] at HNX HFS
          clear hnx
          go_wp2_with (first | ((with_reducible refine ld_rp w.heap.size _ hr ?_ ?_ ?_); exact rfl; exact rfl) | ((with_reducible refine ld_rsz w.heap.size _ _ hr ?_ ?_ ?_); exact rfl; exact rfl) | (go_at_call 126; (with_reducible refine (HI1.out _).mono ?_); rintro e W ⟨rfl, hbc⟩; replace hM := hM.bl hbc; replace hW := hW.bl hbc hB; replace hA := hA.bl hbc; replace hB := Nat.le_trans hB hbc.size; replace hS := Nat.le_trans hS hbc.size; replace hr := hr.bl hbc; replace hL := own_bel hL hbc) | (go_at_call 135; (with_reducible refine (HRD.out _ _ hM hA).mono ?_); rintro e W2 ⟨rfl, O2, hM2, hW2⟩; have hLn2 := (fun g hg => hW2.no (hL.lt g hg).2 (hLn g hg)); replace hL := own_went hL hW2 hLn; replace hLn := hLn2; clear hLn2; replace hr := hW2.row hr (hF.at 0 (by omega)); replace hA := hA.wentR hG hW2; replace hF := hF.went hW2 hS; replace hS := Nat.le_trans hS hW2.size; replace hW := hW.trans hW2; replace hB := Nat.le_trans hB hW2.size; replace hM := hM2; clear hM2 hW2; obtain ⟨ND, hND0⟩ : ∃ n, W2.heap.size = n := ⟨_, rfl⟩; have hND := hide hND0; have hN1 : w.heap.size + 1 ≤ ND := hND0 ▸ hS; have hN2 : B ≤ ND := hND0 ▸ hB; have hdn : ¬ O2 ND := (fun e => absurd (hM.lt _ e) (by omega)); have hdv : ∀ g, (Value.slice av na cap).ownBlock = some g → w.heap.size + 1 ≤ g ∧ g < ND := (fun g hg => hND0 ▸ hL.lt g hg); clear hND0) | ((with_reducible refine al_dp ND ?_ ?_); exact hND.out; intro W hd hb' hz; have hbc := hND.out ▸ hb'; replace hM := hM.bl hbc; replace hW := hW.bl hbc hB; replace hA := hA.bl hbc; replace hB := Nat.le_trans hB hbc.size; replace hS := Nat.le_trans hS hbc.size; replace hr := hr.bl hbc; replace hL := own_bel hL hbc; clear hb' hbc) | ((with_reducible refine st_dp ND _ d hd ?_ ?_ ?_); exact rfl; exact rfl; intro W hnew ho; replace hz := hide (ho.size.trans hz.out); replace hr := hr.only ho (by omega); replace hL := own_only hL ho (fun e => absurd (hdv _ e).2 (by omega)); replace hM := hM.only ho hdn; replace hA := hA.onlyR ho (by omega); replace hW := hW.only ho (by omega) (by omega); replace hS := (show w.heap.size + 1 ≤ W.heap.size by rw [ho.size]; exact hS); replace hB := (show B ≤ W.heap.size by rw [ho.size]; exact hB); replace hd := hnew; clear hnew ho) | ((with_reducible refine ld_dp ND _ hd ?_ ?_ ?_); exact rfl; exact rfl) | ((with_reducible refine bs_d (ND + 1) ?_ d ?_ ?_); exact hz.out; exact rfl; intro W hs hb' hz'; have hbc := hz.out ▸ hb'; replace hM := hM.bl hbc; replace hW := hW.bl hbc hB; replace hA := hA.bl hbc; replace hB := Nat.le_trans hB hbc.size; replace hS := Nat.le_trans hS hbc.size; replace hr := hr.bl hbc; replace hL := own_bel hL hbc; replace hd := hd.bl hbc; clear hb' hbc hz') | ((with_reducible refine app_d acc d na HNA.out hL (ND + 1) hs (by omega) hS ?_ ?_ ?_); exact rfl; exact rfl; intro W v' hL2 hg hbk; replace hr := grow_row hr hg (fun e => absurd (hdv _ e).1 (by omega)); replace hd := grow_row hd hg (fun e => absurd (hdv _ e).2 (by omega)); replace hA := AreasAt.growR hA hg (fun g e => by have := (hdv g e).1; omega); replace hW := grow_went hW hg (fun g e => by have := (hdv g e).1; omega) hB0; have HLN0 := hide hLn; replace hLn := grow_no hM hLn hbk; have hM3 := grow_ram hM hg (fun g e => HLN0.out g e); replace hM := hM3; clear hM3; replace hS := Nat.le_trans hS hg.size; replace hB := Nat.le_trans hB hg.size; replace hL := hL2; clear hL2 hg hs) | (go_at_call 115; (with_reducible refine (HHS.out _).mono ?_); rintro e W ⟨rfl, hbc⟩; replace hM := hM.bl hbc; replace hW := hW.bl hbc hB; replace hA := hA.bl hbc; replace hB := Nat.le_trans hB hbc.size; replace hS := Nat.le_trans hS hbc.size; replace hr := hr.bl hbc; replace hL := own_bel hL hbc; replace hd := hd.bl hbc) | (go_at_call 136; (with_reducible refine (HNX.out _).mono ?_); rintro e W ⟨rfl, hbc⟩; replace hM := hM.bl hbc; replace hW := hW.bl hbc hB; replace hA := hA.bl hbc; replace hB := Nat.le_trans hB hbc.size; replace hS := Nat.le_trans hS hbc.size; replace hr := hr.bl hbc; replace hL := own_bel hL hbc; replace hd := hd.bl hbc))
          go_roundw
          case rel =>
            refine ⟨acc ++ [d], (nx : Int), _, by rw [List.length_append, HNA.out]; exact hin2, rfl, ?_, hM, hW, hA, hr, by rw [List.length_append, HNA.out]; exact hL, hLn, hF, by omega⟩
            rw [HFO.out, HFS.out, List.length_append, HNA.out, if_pos hhas, Option.map_map, show k - na - 1 = k - (na + [d].length) from by simp; omega]
            congr 1
            funext l
            simp
          case measure => obtain ⟨av', cap', rfl, _, _⟩ := own_form hL; show 300 - (na + 1) < 300 - na; omega
        · have hh : hasD d 1 = false := by simpa using hhas
          rw [hh] at HHS HFS
          clear hhas
          go_wp2_with (first | ((with_reducible refine ld_rp w.heap.size _ hr ?_ ?_ ?_); exact rfl; exact rfl) | ((with_reducible refine ld_rsz w.heap.size _ _ hr ?_ ?_ ?_); exact rfl; exact rfl) | (go_at_call 126; (with_reducible refine (HI1.out _).mono ?_); rintro e W ⟨rfl, hbc⟩; replace hM := hM.bl hbc; replace hW := hW.bl hbc hB; replace hA := hA.bl hbc; replace hB := Nat.le_trans hB hbc.size; replace hS := Nat.le_trans hS hbc.size; replace hr := hr.bl hbc; replace hL := own_bel hL hbc) | (go_at_call 135; (with_reducible refine (HRD.out _ _ hM hA).mono ?_); rintro e W2 ⟨rfl, O2, hM2, hW2⟩; have hLn2 := (fun g hg => hW2.no (hL.lt g hg).2 (hLn g hg)); replace hL := own_went hL hW2 hLn; replace hLn := hLn2; clear hLn2; replace hr := hW2.row hr (hF.at 0 (by omega)); replace hA := hA.wentR hG hW2; replace hF := hF.went hW2 hS; replace hS := Nat.le_trans hS hW2.size; replace hW := hW.trans hW2; replace hB := Nat.le_trans hB hW2.size; replace hM := hM2; clear hM2 hW2; obtain ⟨ND, hND0⟩ : ∃ n, W2.heap.size = n := ⟨_, rfl⟩; have hND := hide hND0; have hN1 : w.heap.size + 1 ≤ ND := hND0 ▸ hS; have hN2 : B ≤ ND := hND0 ▸ hB; have hdn : ¬ O2 ND := (fun e => absurd (hM.lt _ e) (by omega)); have hdv : ∀ g, (Value.slice av na cap).ownBlock = some g → w.heap.size + 1 ≤ g ∧ g < ND := (fun g hg => hND0 ▸ hL.lt g hg); clear hND0) | ((with_reducible refine al_dp ND ?_ ?_); exact hND.out; intro W hd hb' hz; have hbc := hND.out ▸ hb'; replace hM := hM.bl hbc; replace hW := hW.bl hbc hB; replace hA := hA.bl hbc; replace hB := Nat.le_trans hB hbc.size; replace hS := Nat.le_trans hS hbc.size; replace hr := hr.bl hbc; replace hL := own_bel hL hbc; clear hb' hbc) | ((with_reducible refine st_dp ND _ d hd ?_ ?_ ?_); exact rfl; exact rfl; intro W hnew ho; replace hz := hide (ho.size.trans hz.out); replace hr := hr.only ho (by omega); replace hL := own_only hL ho (fun e => absurd (hdv _ e).2 (by omega)); replace hM := hM.only ho hdn; replace hA := hA.onlyR ho (by omega); replace hW := hW.only ho (by omega) (by omega); replace hS := (show w.heap.size + 1 ≤ W.heap.size by rw [ho.size]; exact hS); replace hB := (show B ≤ W.heap.size by rw [ho.size]; exact hB); replace hd := hnew; clear hnew ho) | ((with_reducible refine ld_dp ND _ hd ?_ ?_ ?_); exact rfl; exact rfl) | ((with_reducible refine bs_d (ND + 1) ?_ d ?_ ?_); exact hz.out; exact rfl; intro W hs hb' hz'; have hbc := hz.out ▸ hb'; replace hM := hM.bl hbc; replace hW := hW.bl hbc hB; replace hA := hA.bl hbc; replace hB := Nat.le_trans hB hbc.size; replace hS := Nat.le_trans hS hbc.size; replace hr := hr.bl hbc; replace hL := own_bel hL hbc; replace hd := hd.bl hbc; clear hb' hbc hz') | ((with_reducible refine app_d acc d na HNA.out hL (ND + 1) hs (by omega) hS ?_ ?_ ?_); exact rfl; exact rfl; intro W v' hL2 hg hbk; replace hr := grow_row hr hg (fun e => absurd (hdv _ e).1 (by omega)); replace hd := grow_row hd hg (fun e => absurd (hdv _ e).2 (by omega)); replace hA := AreasAt.growR hA hg (fun g e => by have := (hdv g e).1; omega); replace hW := grow_went hW hg (fun g e => by have := (hdv g e).1; omega) hB0; have HLN0 := hide hLn; replace hLn := grow_no hM hLn hbk; have hM3 := grow_ram hM hg (fun g e => HLN0.out g e); replace hM := hM3; clear hM3; replace hS := Nat.le_trans hS hg.size; replace hB := Nat.le_trans hB hg.size; replace hL := hL2; clear hL2 hg hs) | (go_at_call 115; (with_reducible refine (HHS.out _).mono ?_); rintro e W ⟨rfl, hbc⟩; replace hM := hM.bl hbc; replace hW := hW.bl hbc hB; replace hA := hA.bl hbc; replace hB := Nat.le_trans hB hbc.size; replace hS := Nat.le_trans hS hbc.size; replace hr := hr.bl hbc; replace hL := own_bel hL hbc; replace hd := hd.bl hbc) | (go_at_call 136; (with_reducible refine (HNX.out _).mono ?_); rintro e W ⟨rfl, hbc⟩; replace hM := hM.bl hbc; replace hW := hW.bl hbc hB; replace hA := hA.bl hbc; replace hB := Nat.le_trans hB hbc.size; replace hS := Nat.le_trans hS hbc.size; replace hr := hr.bl hbc; replace hL := own_bel hL hbc; replace hd := hd.bl hbc))
          go_ret2
          refine ⟨_, hM, hW, .inr ⟨acc ++ [d], _, ?_, rfl, by rw [List.length_append, HNA.out]; exact own_lower1 hL, hLn⟩⟩
          rw [HFO.out, HFS.out]
          rfl
      · have hpf : plB p (deA r m) 16 = false := by simpa using hpl
        have HRD : Hid (∀ W O1, RamB W B b p f c O1 → AreasAt W → Calls Tryz.prog 135 #[.agg r.cells, .pointer (some ⟨b, 0, none⟩), .int .i64 (m : Nat)] W fun e w' => e = .returned (.tuple #[.agg (dscV (fun _ => 0)), .iface 129 (.int .i64 22)]) ∧ ∃ O', RamB w' B b p f c O' ∧ Went B O1 O' W w') := hide (fun W O1 hM hA => rd_no r hr0 al1 m hml hM hA hG hpf)
        rw [if_neg hpl] at hfs
        have HFS := hide hfs
        clear hfs hpl hpf
        go_wp2_with (first | ((with_reducible refine ld_rp w.heap.size _ hr ?_ ?_ ?_); exact rfl; exact rfl) | ((with_reducible refine ld_rsz w.heap.size _ _ hr ?_ ?_ ?_); exact rfl; exact rfl) | (go_at_call 126; (with_reducible refine (HI1.out _).mono ?_); rintro e W ⟨rfl, hbc⟩; replace hM := hM.bl hbc; replace hW := hW.bl hbc hB; replace hA := hA.bl hbc; replace hB := Nat.le_trans hB hbc.size; replace hS := Nat.le_trans hS hbc.size; replace hr := hr.bl hbc; replace hL := own_bel hL hbc) | (go_at_call 135; (with_reducible refine (HRD.out _ _ hM hA).mono ?_); rintro e W2 ⟨rfl, O2, hM2, hW2⟩; have hLn2 := (fun g hg => hW2.no (hL.lt g hg).2 (hLn g hg)); replace hL := own_went hL hW2 hLn; replace hLn := hLn2; clear hLn2; replace hr := hW2.row hr (hF.at 0 (by omega)); replace hA := hA.wentR hG hW2; replace hF := hF.went hW2 hS; replace hS := Nat.le_trans hS hW2.size; replace hW := hW.trans hW2; replace hB := Nat.le_trans hB hW2.size; replace hM := hM2; clear hM2 hW2; obtain ⟨ND, hND0⟩ : ∃ n, W2.heap.size = n := ⟨_, rfl⟩; have hND := hide hND0; have hN1 : w.heap.size + 1 ≤ ND := hND0 ▸ hS; have hN2 : B ≤ ND := hND0 ▸ hB; have hdn : ¬ O2 ND := (fun e => absurd (hM.lt _ e) (by omega)); have hdv : ∀ g, (Value.slice av na cap).ownBlock = some g → w.heap.size + 1 ≤ g ∧ g < ND := (fun g hg => hND0 ▸ hL.lt g hg); clear hND0) | ((with_reducible refine al_dp ND ?_ ?_); exact hND.out; intro W hd hb' hz; have hbc := hND.out ▸ hb'; replace hM := hM.bl hbc; replace hW := hW.bl hbc hB; replace hA := hA.bl hbc; replace hB := Nat.le_trans hB hbc.size; replace hS := Nat.le_trans hS hbc.size; replace hr := hr.bl hbc; replace hL := own_bel hL hbc; clear hb' hbc) | ((with_reducible refine st_dp ND _ (fun _ => 0) hd ?_ ?_ ?_); exact rfl; exact rfl; intro W hnew ho; replace hz := hide (ho.size.trans hz.out); replace hr := hr.only ho (by omega); replace hL := own_only hL ho (fun e => absurd (hdv _ e).2 (by omega)); replace hM := hM.only ho hdn; replace hA := hA.onlyR ho (by omega); replace hW := hW.only ho (by omega) (by omega); replace hS := (show w.heap.size + 1 ≤ W.heap.size by rw [ho.size]; exact hS); replace hB := (show B ≤ W.heap.size by rw [ho.size]; exact hB); replace hd := hnew; clear hnew ho))
        go_ret2
        refine ⟨_, hM, hW, .inl ⟨?_, rfl⟩⟩
        rw [HFO.out, HFS.out]
        rfl
    · have hno : followV p f r (k - na) n = none := by
        rcases Nat.lt_or_ge na k with e | e
        · rw [show k - na = (k - na - 1) + 1 by omega]
          simp only [followV]
          rw [if_neg (fun q => hin ⟨q, e⟩)]
        · rw [show k - na = 0 by omega]; rfl
      have HNO := hide hno
      clear hno
      by_cases hd0 : 0 ≤ n ∧ n < r.sz
      · have hge : ¬ (na : Int) < r.sz := fun e => hin ⟨hd0, by omega⟩
        have HI1 : Hid (∀ W, Calls Tryz.prog 126 #[.agg r.cells, .int .i64 n] W fun e w' => e = .returned (.bool true) ∧ Below W.heap.size W w') := hide (fun W => by have := HIS.out n W; rwa [decide_eq_true hd0] at this)
        have hge2 : decide ((na : Int) < r.sz) = false := by simpa using hge
        clear hin hd0
        go_wp2_with (first | ((with_reducible refine ld_rp w.heap.size _ hr ?_ ?_ ?_); exact rfl; exact rfl) | ((with_reducible refine ld_rsz w.heap.size _ _ hr ?_ ?_ ?_); exact rfl; exact rfl) | (go_at_call 126; (with_reducible refine (HI1.out _).mono ?_); rintro e W ⟨rfl, hbc⟩; replace hM := hM.bl hbc; replace hW := hW.bl hbc hB; replace hA := hA.bl hbc; replace hB := Nat.le_trans hB hbc.size; replace hS := Nat.le_trans hS hbc.size; replace hr := hr.bl hbc; replace hL := own_bel hL hbc))
        go_ret2
        refine ⟨_, hM, hW, .inl ⟨?_, rfl⟩⟩
        rw [HFO.out, HNO.out]
        rfl
      · have HI1 : Hid (∀ W, Calls Tryz.prog 126 #[.agg r.cells, .int .i64 n] W fun e w' => e = .returned (.bool false) ∧ Below W.heap.size W w') := hide (fun W => by have := HIS.out n W; rwa [decide_eq_false hd0] at this)
        clear hin hd0
        go_wp2_with (first | ((with_reducible refine ld_rp w.heap.size _ hr ?_ ?_ ?_); exact rfl; exact rfl) | ((with_reducible refine ld_rsz w.heap.size _ _ hr ?_ ?_ ?_); exact rfl; exact rfl) | (go_at_call 126; (with_reducible refine (HI1.out _).mono ?_); rintro e W ⟨rfl, hbc⟩; replace hM := hM.bl hbc; replace hW := hW.bl hbc hB; replace hA := hA.bl hbc; replace hB := Nat.le_trans hB hbc.size; replace hS := Nat.le_trans hS hbc.size; replace hr := hr.bl hbc; replace hL := own_bel hL hbc))
        go_ret2
        refine ⟨_, hM, hW, .inl ⟨?_, rfl⟩⟩
        rw [HFO.out, HNO.out]
        rfl
end Go.Proofs.YtaaiockiojejeaaGreatDoor
namespace Go.Proofs.YtaaiockiojejeaaGreatDoor
open Go.RowKit
set_option linter.unusedVariables false
set_option linter.unusedSimpArgs false

attribute [local go_sem] Rg.at0 Rg.at1 Rg.at2 Rg.at3 Rg.at4 Rg.at5
def usH (r : Rg) : Nat := t32 (r.us + 4 + 8 * slotN r r.pu)
def usN (r : Rg) : Nat := t32 (usH r + 4)
def usC (r : Rg) : Nat := t32 (r.us + 2)
def givenR (r : Rg) : Rg := { r with pu := (r.pu + 1) % 65536 }
def giveF (r : Rg) (f : Nat → Nat) (h n : Nat) : Nat → Nat :=
  wroteF (wroteF (wroteF f (plM (usH r)) (numB h 4)) (plM (usN r)) (numB n 4)) (plM (usC r)) (numB ((r.pu + 1) % 65536) 2)
theorem usN_in {r : Rg} {p : Nat} (hp : p ≤ 16384) (h : plB p (usH r) 8 = true) : plM (usN r) = plM (usH r) + 4 ∧ plB p (usN r) 4 = true ∧ plB p (usH r) 4 = true := by
  have h1 := plB_in h (by decide)
  have hl : usH r < 4294967296 := Nat.mod_lt _ (by decide)
  have e : plM (usN r) = plM (usH r) + 4 := by
    unfold usN t32 plM at *
    split at h1 <;> split <;> omega
  refine ⟨e, ?_, ?_⟩
  · unfold plB; rw [e]; exact decide_eq_true (by omega)
  · unfold plB; exact decide_eq_true (by omega)
set_option maxHeartbeats 2000000 in
theorem give_ok (r : Rg) (hr0 : r.Ok) (hc : chkR r = true) {w : World} {B b p c : Nat} {f : Nat → Nat} {O : Nat → Prop} (h : RamB w B b p f c O) (hA : AreasAt w) (hG : 2 < B) (hd n : Nat) (hh : (hd : Int) < r.sz) (hn : n < 4294967296) (h1 : plB p (usH r) 8 = true) (h3 : plB p (usC r) 2 = true) (hcc : c ≤ 900000000) :
    Calls Tryz.prog 94 #[.agg r.cells, .pointer (some ⟨b, 0, none⟩), .int .i64 (hd : Nat), .int .u32 (n : Nat)] w fun e w' => e = .returned (.tuple #[.agg (givenR r).cells, .nilIface]) ∧ ∃ O', RamB w' B b p (giveF r f hd n) (c + 1 + 1 + 1) O' ∧ Went B O O' w w' := by
  have hB0 := h.base
  have hGw : 2 < w.heap.size := Nat.lt_of_lt_of_le hG hB0
  have hA0 := hA
  clear hA
  obtain ⟨k, hk, hk0, hk1⟩ := chkR_sz hc
  obtain ⟨al1, al2, al3⟩ := chkR_al hc
  have HC : Hid (∀ W, Calls Tryz.prog 65 #[.agg r.cells, .pointer (some ⟨b, 0, none⟩)] W fun e w' => e = .returned .nilIface ∧ Below W.heap.size W w') := hide (fun W => by have := rcheckw_any r hr0 b W; rw [hc] at this; exact this)
  have hpu := hr0.pu
  have hus := hr0.us
  have hfew := h.few
  obtain ⟨q1, q2, q3⟩ := usN_in hfew h1
  have hdl : hd < 256 := by omega
  have hsl := slotN_lt hc r.pu
  have b1 : usH r < 4294967296 ∧ usN r < 4294967296 ∧ usC r < 4294967296 := ⟨Nat.mod_lt _ (by decide), Nat.mod_lt _ (by decide), Nat.mod_lt _ (by decide)⟩
  have b2 : usH r % 4 = 0 ∧ usN r % 4 = 0 ∧ usC r % 2 = 0 := by unfold usN usC usH t32; omega
  have HH : Hid (∀ W, Calls Tryz.prog 126 #[.agg r.cells, .int .i64 (hd : Nat)] W fun e w' => e = .returned (.bool true) ∧ Below W.heap.size W w') := hide (fun W => by have := ishead_any r (hd : Int) W; rwa [decide_eq_true (by omega)] at this)
  have HS : Hid (∀ W, Calls Tryz.prog 67 #[.agg r.cells, .int .u16 (r.pu : Nat)] W fun e w' => e = .returned (.int .u32 (slotN r r.pu : Nat)) ∧ Below W.heap.size W w') := hide (fun W => slot_any r hc r.pu hpu W)
  have HN : Hid (∀ W O1, RamB W B b p f c O1 → AreasAt W → Calls Tryz.prog 127 #[.pointer (some ⟨b, 0, none⟩), .int .u32 (usH r : Nat), .int .u64 8] W fun e w' => e = .returned (.bool true) ∧ Below W.heap.size W w') := hide (fun W O1 hM hA => by have := isin_b hM hA (usH r) 8 b1.1 (by decide); rwa [h1] at this)
  have H1 : Hid (∀ W O1, RamB W B b p (f) (c) O1 → AreasAt W → Calls Tryz.prog 128 #[.pointer (some ⟨b, 0, none⟩), .int .u32 (usH r : Nat), .int .i64 4, .int .u32 (hd : Nat)] W fun e w' => e = .returned .nilIface ∧ ∃ O', RamB w' B b p (wroteF f (plM (usH r)) (numB hd 4)) (c + 1) O' ∧ Went B O1 O' W w') := hide (fun W O1 hM hA => rstore_yes hM hA hG (usH r) 4 b1.1 (by decide) b2.1 q3 hd (by omega) (by omega))
  have H2 : Hid (∀ W O1, RamB W B b p (wroteF f (plM (usH r)) (numB hd 4)) (c + 1) O1 → AreasAt W → Calls Tryz.prog 128 #[.pointer (some ⟨b, 0, none⟩), .int .u32 (usN r : Nat), .int .i64 4, .int .u32 (n : Nat)] W fun e w' => e = .returned .nilIface ∧ ∃ O', RamB w' B b p (wroteF (wroteF f (plM (usH r)) (numB hd 4)) (plM (usN r)) (numB n 4)) (c + 1 + 1) O' ∧ Went B O1 O' W w') := hide (fun W O1 hM hA => rstore_yes hM hA hG (usN r) 4 b1.2.1 (by decide) b2.2.1 q2 n hn (by omega))
  have H3 : Hid (∀ W O1, RamB W B b p (wroteF (wroteF f (plM (usH r)) (numB hd 4)) (plM (usN r)) (numB n 4)) (c + 1 + 1) O1 → AreasAt W → Calls Tryz.prog 128 #[.pointer (some ⟨b, 0, none⟩), .int .u32 (usC r : Nat), .int .i64 2, .int .u32 ((r.pu + 1) % 65536 : Nat)] W fun e w' => e = .returned .nilIface ∧ ∃ O', RamB w' B b p (giveF r f hd n) (c + 1 + 1 + 1) O' ∧ Went B O1 O' W w') := hide (fun W O1 hM hA => rstore_yes hM hA hG (usC r) 2 b1.2.2 (by decide) b2.2.2 h3 _ (by omega) (by omega))
  have e1 : ((r.us : Int) + 2) % 4294967296 = ((usC r : Nat) : Int) := by unfold usC t32; omega
  have e2 : (((r.us : Int) + 4) % 4294967296 + (8 * ((slotN r r.pu : Nat) : Int))) % 4294967296 = ((usH r : Nat) : Int) := by unfold usH t32; omega
  have en : ((usH r : Int) + 4) % 4294967296 = ((usN r : Nat) : Int) := by unfold usN t32; omega
  have en2 : IntKind.u32.wrap ((usH r : Int) + 4) = ((usN r : Nat) : Int) := by rw [IntKind.wrap_u32]; exact en
  generalize wroteF (wroteF f (plM (usH r)) (numB hd 4)) (plM (usN r)) (numB n 4) = f2 at *
  generalize wroteF f (plM (usH r)) (numB hd 4) = f1 at *
  generalize giveF r f hd n = f3 at *
  generalize usC r = aC at *
  generalize usN r = aN at *
  generalize usH r = aH at *
  generalize slotN r r.pu = sl at *
  have e3 : Hid (IntKind.u32.wrap (8 * (sl : Int)) = 8 * (sl : Int)) := hide (by rw [IntKind.wrap_u32]; omega)
  have e4 : Hid (IntKind.u32.wrap ((r.us : Int) + 4) = ((r.us : Int) + 4) % 4294967296) := hide (by rw [IntKind.wrap_u32])
  have e5 : Hid (IntKind.u32.wrap (((r.us : Int) + 4) % 4294967296 + (8 * ((sl : Nat) : Int))) = (aH : Int)) := hide (by rw [IntKind.wrap_u32]; exact e2)
  obtain ⟨pn, hpn⟩ : ∃ x, (r.pu + 1) % 65536 = x := ⟨_, rfl⟩
  have e6 : Hid (((r.pu : Int) + 1) % 65536 = (pn : Int)) := hide (by omega)
  have hpl : pn < 65536 := by omega
  have htr : ({ r with pu := pn } : Rg) = givenR r := by unfold givenR; rw [hpn]
  rw [hpn] at H3
  have hgp : (givenR r).pu = pn := hpn
  have hgu : (givenR r).us = r.us := rfl
  clear hk hr0 hc al1 al2 al3 h1 h3 q1 q2 q3 b1 b2 e2 hh hcc hpn
  go_enter Tryz.func94, Tryz.ntmps94
  go_wp2_with (first | ((with_reducible refine bx_rp w.heap.size r ?_ ?_ ?_); exact rfl; exact rfl; intro W hr hb hz) | ((with_reducible refine al_rp (w.heap.size + 1) ?_ ?_); exact hz.out; intro W hq hb' hz'; replace hr := hr.bl (hz.out ▸ hb'); replace hb := hb.trans (hb'.mono (by omega)); replace hz := hz'; have hM := h.bl hb; have hW := Went.of (O := O) hb hB0; have hA := hA0.bl hb; have hF := h.far 2; have hS : w.heap.size + 2 ≤ W.heap.size := Nat.le_of_eq hz.out.symm; have hB : B ≤ W.heap.size := Nat.le_trans hB0 hb.size; clear hb hz hb' hz') | ((with_reducible refine ld_rp w.heap.size _ hr ?_ ?_ ?_); exact rfl; exact rfl) | (go_at_call 65; (with_reducible refine (HC.out _).mono ?_); rintro e W ⟨rfl, hbc⟩; replace hM := hM.bl hbc; replace hW := hW.bl hbc hB; replace hA := hA.bl hbc; replace hB := Nat.le_trans hB hbc.size; replace hS := Nat.le_trans hS hbc.size; replace hr := hr.bl hbc; replace hq := hq.bl hbc) | (go_at_call 126; (with_reducible refine (HH.out _).mono ?_); rintro e W ⟨rfl, hbc⟩; replace hM := hM.bl hbc; replace hW := hW.bl hbc hB; replace hA := hA.bl hbc; replace hB := Nat.le_trans hB hbc.size; replace hS := Nat.le_trans hS hbc.size; replace hr := hr.bl hbc; replace hq := hq.bl hbc))
  refine wp_region_held_drew (S := (fun V => RowAt V w.heap.size r.cells 45)) (by kernel_rfl) ?_ (fun hHeld => ?_)
  · exact hr.dr
  replace hM := hM.dr
  replace hW := hW.dr
  replace hA := hA.drR
  replace hS : w.heap.size + 2 ≤ (World.drew _).heap.size := hS
  replace hB : B ≤ (World.drew _).heap.size := hB
  replace hq := hq.dr
  generalize World.drew _ = V at hHeld hM hW hA hS hB hq ⊢
  clear hr
  refine tkO 0 (.pointer (some ⟨w.heap.size, 3, none⟩)) (by simp only [gT, gZ]; rfl) (puO (by (intro w hSw; (try dsimp only at hSw); go_simp))) ?_
  simp only [Act.put, pA, pZ, pS]
  refine tkO 1 (.int .u32 (r.us : Nat)) (by simp only [gT, gZ, gS]; rfl) (y_rus w.heap.size r _ (fun V hV => hV) rfl) ?_
  simp only [Act.put, pA, pZ, pS]
  refine tkO 2 (.int .u32 (((r.us : Int) + 4) % 4294967296)) (by simp only [gT, gZ, gS]; rfl) (puO (by (intro w hSw; (try dsimp only at hSw); go_simp ; exact e4.out))) ?_
  simp only [Act.put, pA, pZ, pS]
  refine tkO 3 (.agg r.cells) (by simp only [gT, gZ, gS]; rfl) (y_rp w.heap.size r (fun V hV => hV) rfl rfl) ?_
  simp only [Act.put, pA, pZ, pS]
  refine tkO 4 (.pointer (some ⟨w.heap.size, 5, none⟩)) (by simp only [gT, gZ, gS]; rfl) (puO (by (intro w hSw; (try dsimp only at hSw); go_simp))) ?_
  simp only [Act.put, pA, pZ, pS]
  refine tkO 5 (.int .u16 (r.pu : Nat)) (by simp only [gT, gZ, gS]; rfl) (y_rpu w.heap.size r _ (fun V hV => hV) rfl) ?_
  simp only [Act.put, pA, pZ, pS]
  refine skO 6 (by simp only [gT, gZ, gS]; rfl) (fun K hK => ?_)
  rw [if_pos (by rfl)]
  go_simp
  (with_reducible refine (HS.out _).mono ?_)
  rintro e V2 ⟨rfl, hbc⟩
  have hH2 := hide (hHeld.bl hbc)
  replace hM := hM.bl hbc
  replace hW := hW.bl hbc hB
  replace hA := hA.bl hbc
  replace hB := Nat.le_trans hB hbc.size
  replace hS := Nat.le_trans hS hbc.size
  replace hq := hq.bl hbc
  clear hHeld hbc
  go_simp
  refine hK.out _ _ ?_ (fun hHeld => ?_)
  · exact hH2.out
  clear hK K
  clear hH2
  refine tkO 7 (.int .u32 (8 * (sl : Int))) (by simp only [gT, gZ, gS]; rfl) (puO (by (intro w hSw; (try dsimp only at hSw); go_simp ; exact e3.out))) ?_
  simp only [Act.put, pA, pZ, pS]
  refine tkO 8 (.int .u32 (aH : Nat)) (by simp only [gT, gZ, gS]; rfl) (puO (by (intro w hSw; (try dsimp only at hSw); go_simp ; exact e5.out))) ?_
  simp only [Act.put, pA, pZ, pS]
  refine tkO 9 (.int .u32 (aH : Nat)) (by simp only [gT, gZ, gS]; rfl) (puO (by (intro w hSw; (try dsimp only at hSw); go_simp))) ?_
  simp only [Act.put, pA, pZ, pS]
  refine wpAnyH_done (by kernel_rfl) ?_ _
  have hr := hHeld
  clear hHeld
  go_wp2_with (first | (go_at_call 127; (with_reducible refine (HN.out _ _ hM hA).mono ?_); rintro e W ⟨rfl, hbc⟩; replace hM := hM.bl hbc; replace hW := hW.bl hbc hB; replace hA := hA.bl hbc; replace hB := Nat.le_trans hB hbc.size; replace hS := Nat.le_trans hS hbc.size; replace hr := hr.bl hbc; replace hq := hq.bl hbc) | (go_at_call 128; (with_reducible refine (H1.out _ _ hM hA).mono ?_); rintro e W2 ⟨rfl, O2, hM2, hW2⟩; replace hr := hW2.row hr (hF.at 0 (by omega)); replace hq := hW2.row hq (hF.at 1 (by omega)); replace hA := hA.wentR hG hW2; replace hF := hF.went hW2 hS; replace hS := Nat.le_trans hS hW2.size; replace hW := hW.trans hW2; replace hB := Nat.le_trans hB hW2.size; replace hM := hM2; clear hM2 hW2) | (go_at_call 128; (with_reducible refine (H2.out _ _ hM hA).mono ?_); rintro e W2 ⟨rfl, O2, hM2, hW2⟩; replace hr := hW2.row hr (hF.at 0 (by omega)); replace hq := hW2.row hq (hF.at 1 (by omega)); replace hA := hA.wentR hG hW2; replace hF := hF.went hW2 hS; replace hS := Nat.le_trans hS hW2.size; replace hW := hW.trans hW2; replace hB := Nat.le_trans hB hW2.size; replace hM := hM2; clear hM2 hW2) | (go_at_call 128; (with_reducible refine (H3.out _ _ hM hA).mono ?_); rintro e W2 ⟨rfl, O2, hM2, hW2⟩; replace hr := hW2.row hr (hF.at 0 (by omega)); replace hq := hW2.row hq (hF.at 1 (by omega)); replace hA := hA.wentR hG hW2; replace hF := hF.went hW2 hS; replace hS := Nat.le_trans hS hW2.size; replace hW := hW.trans hW2; replace hB := Nat.le_trans hB hW2.size; replace hM := hM2; clear hM2 hW2) | ((with_reducible refine ld_rus w.heap.size _ _ hr ?_ ?_ ?_); exact rfl; exact rfl) | ((with_reducible refine ld_rpu w.heap.size _ _ hr ?_ ?_ ?_); exact rfl; exact rfl) | ((with_reducible refine st_rpu w.heap.size _ pn _ hr ?_ ?_ ?_); exact rfl; (exact congrArg _ e6.out); intro W hnew ho; rw [htr] at hnew; replace hq := hq.only ho (by omega); replace hM := hM.only ho (hF.at 0 (by omega)); replace hA := hA.onlyR ho (by omega); replace hW := hW.only ho (by omega) (by omega); replace hS := (show w.heap.size + 2 ≤ W.heap.size by rw [ho.size]; exact hS); replace hB := (show B ≤ W.heap.size by rw [ho.size]; exact hB); replace hr := hnew; clear hnew ho) | ((with_reducible refine ld_rp w.heap.size (givenR r) hr ?_ ?_ ?_); exact rfl; exact rfl) | ((with_reducible refine st_rp (w.heap.size + 1) _ (givenR r) hq ?_ ?_ ?_); exact rfl; exact rfl; intro W hnew ho; replace hr := hr.only ho (by omega); replace hM := hM.only ho (hF.at 1 (by omega)); replace hA := hA.onlyR ho (by omega); replace hW := hW.only ho (by omega) (by omega); replace hS := (show w.heap.size + 2 ≤ W.heap.size by rw [ho.size]; exact hS); replace hB := (show B ≤ W.heap.size by rw [ho.size]; exact hB); replace hq := hnew; clear hnew ho))
  refine bodyPost_ret (results_cell_u Tryz.results94 _ _ (w.heap.size + 1) _ _ _ rfl hq Tryz.underlying45 rfl size_rp) rfl ?_
  exact ⟨rfl, _, hM, hW⟩
end Go.Proofs.YtaaiockiojejeaaGreatDoor
